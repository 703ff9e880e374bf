import Derived.Test.YtbiagmnkdihmiaaG06
import Derived.Test.YtbiagmnkdihmiaaG02
import Derived.Test.YtbiagmnkdihmiaaG04
namespace Go.Proofs.Ytbiagmnkdihmiaa
set_option maxRecDepth 100000
set_option maxHeartbeats 8000000
open Go.RowKit
set_option linter.unusedVariables false
set_option linter.unusedSimpArgs false
theorem SP.setRaw {w : World} {B : Nat} {sum : List Int} {lsn num bot : Int} {sl raw : List Int} (h : SP w B sum lsn num bot sl raw) (r2 : List Int) (hr : r2.length = 4096) : SP (w.setCells B 71 (vals .u8 r2)) B sum lsn num bot sl r2 := by
  refine ⟨?_, h.l1, h.l2, hr⟩
  have hs := Blk.setCells (vals .u8 r2) 71 h.blk (by rw [spCells_length h.l1 h.l2 h.l3, vals_length, hr]; omega)
  have e : ∀ r : List Int, spCells sum lsn num bot sl r = (vals .u8 sum ++ (.int .i64 lsn :: .int .i64 num :: .int .i64 bot :: vals .i64 sl)) ++ (vals .u8 r ++ []) := fun r => by simp [spCells]
  have hA : (vals .u8 sum ++ (.int .i64 lsn :: .int .i64 num :: .int .i64 bot :: vals .i64 sl)).length = 71 := by simp [vals, h.l1, h.l2]
  have hl : lay (spCells sum lsn num bot sl raw) 71 (vals .u8 r2) = spCells sum lsn num bot sl r2 := by
    have hm := lay_mid (vals .u8 sum ++ (.int .i64 lsn :: .int .i64 num :: .int .i64 bot :: vals .i64 sl)) (vals .u8 raw) [] (vals .u8 r2) (by rw [vals_length, vals_length, hr, h.l3])
    rw [hA] at hm
    rw [e raw, e r2]
    exact hm
  rw [hl] at hs
  exact hs
theorem SP.setBot {w : World} {B : Nat} {sum : List Int} {lsn num bot : Int} {sl raw : List Int} (h : SP w B sum lsn num bot sl raw) (x : Int) : SP (w.setCell ⟨B, 6, none⟩ (.int .i64 x)) B sum lsn num x sl raw := by
  refine ⟨?_, h.l1, h.l2, h.l3⟩
  have hs := h.blk.stored 6 (.int .i64 x)
  have e : (spCells sum lsn num bot sl raw).set 6 (.int .i64 x) = spCells sum lsn num x sl raw := by
    unfold spCells
    have h4 : (vals .u8 sum).length = 4 := by rw [vals_length, h.l1]
    rw [List.set_append_right (h := by omega), h4]
    rfl
  rw [e] at hs
  exact hs
theorem SP.setLsn {w : World} {B : Nat} {sum : List Int} {lsn num bot : Int} {sl raw : List Int} (h : SP w B sum lsn num bot sl raw) (x : Int) : SP (w.setCell ⟨B, 4, none⟩ (.int .i64 x)) B sum x num bot sl raw := by
  refine ⟨?_, h.l1, h.l2, h.l3⟩
  have hs := h.blk.stored 4 (.int .i64 x)
  have e : (spCells sum lsn num bot sl raw).set 4 (.int .i64 x) = spCells sum x num bot sl raw := by
    unfold spCells
    have h4 : (vals .u8 sum).length = 4 := by rw [vals_length, h.l1]
    rw [List.set_append_right (h := by omega), h4]
    rfl
  rw [e] at hs
  exact hs
theorem compact_any (P : Nat) (sum : List Int) (lsn num bot : Int) (sl raw : List Int) (w : World) (hp : SP w P sum lsn num bot sl raw) (hok : SlOK sl) :
    Calls Try.prog 37 #[.pointer (some ⟨P, 0, none⟩)] w fun e w' => e = .returned (.tuple #[]) ∧ SP w' P sum lsn num (cBot sl 32) (cSl sl 32) (cBody raw sl 32) ∧ Kept (fun b => b = P) w w' := by
  have HP := hid hp
  have HOK := hid hok
  have hPl := hp.blk.lt
  have HIs := (show Hid ((Try.prog.info? 71).map (·.size) = some (vals .i64 sl).length) from (by rw [vals_length, hp.l2]; exact (by kernel_rfl : (Try.prog.info? 71).map (·.size) = some 64) : (Try.prog.info? 71).map (·.size) = some (vals .i64 sl).length))
  obtain ⟨ss, hss⟩ : ∃ ss : List Value, vals .i64 sl = ss := ⟨_, rfl⟩
  have HSS := hid hss
  have hz8 : Try.zeroCells50.toList = vals .u8 (List.replicate 4096 0) := by kernel_rfl
  obtain ⟨w1, hw1⟩ : ∃ x, w.alloc (.cells Try.zeroCells50 50) = x := ⟨_, rfl⟩
  have HM1 := (show Hid (Blk w1 w.heap.size 50 (vals .u8 (cBody raw sl 0))) from by
    rw [← hw1]
    have h := Blk.new w Try.zeroCells50 50
    rw [hz8] at h
    exact h)
  have HK1 := (show Hid (Same w w1) from by rw [← hw1]; exact (Kept.refl _ _).alloc _)
  have HP1 := hid (HP.out.same HK1.out)
  have HRs := (show Hid ((w.alloc (.cells Try.zeroCells50 50)).rangeAt P 7 ss) from by rw [← hss, hw1]; exact HP1.out.slRange)
  have HW1 := hid hw1
  rw [hss] at HIs
  clear hss hp hok hw1 hz8
  go_enter Try.func37, Try.ntmps37
  go_wp2_with (refine wpList_load_mid rfl 71 _ rfl P 7 rfl ss _ HRs.out Try.underlying71 rfl HIs.out ?_)
  rw [HW1.out]
  clear HW1 HRs
  go_loopw [3, 10] (fun b i wr => ∃ (k : Nat), k ≤ 32 ∧ b = .int .i64 (cBot sl k) ∧ i = .int .i64 (k : Int) ∧ Hid (SP wr P sum lsn num bot (cSl sl k) raw) ∧ Hid (Blk wr w.heap.size 50 (vals .u8 (cBody raw sl k))) ∧ Hid (Kept (fun b => b = P) w wr)) (fun _ i _ => 32 - (intOf i).toNat)
  case atStart => exact ⟨0, Nat.zero_le _, rfl, rfl, HP1, HM1, HK1.out.mono (fun _ _ e => e.elim)⟩
  case round =>
    obtain ⟨k, hk, rfl, rfl, HS, HM, HK⟩ := hrel
    clear HP1 HM1 HK1
    by_cases hlt : k < 32
    case pos =>
      have hk2 : (k : Int) < 32 := by omega
      have hix := fun w => slot_at sl HP.out.l2 k hlt w
      rw [HSS.out] at hix
      have h1 := HOK.out.one k hlt
      have hb0 := HOK.out.bot k hk
      have hb1 := HOK.out.bot (k + 1) (by omega)
      have hbs := cBot_succ sl k
      obtain ⟨xn, hxn⟩ : ∃ n : Nat, sl.getD (2 * k) 0 = (n : Int) := ⟨(sl.getD (2 * k) 0).toNat, by omega⟩
      obtain ⟨yn, hyn⟩ : ∃ n : Nat, sl.getD (2 * k + 1) 0 = (n : Int) := ⟨(sl.getD (2 * k + 1) 0).toNat, by omega⟩
      have HCS := (show Hid (cSl sl (k + 1) = if sl.getD (2 * k) 0 = 0 then cSl sl k else (cSl sl k).set (2 * k) (cBot sl (k + 1))) from rfl)
      have HCB := (show Hid (cBody raw sl (k + 1) = if sl.getD (2 * k) 0 = 0 then cBody raw sl k else layI (cBody raw sl k) (cBot sl (k + 1)).toNat (stretch raw (sl.getD (2 * k) 0) (sl.getD (2 * k + 1) 0))) from rfl)
      rw [hxn] at HCS
      rw [hxn, hyn] at HCB hix h1
      rw [hyn] at hbs
      have kU := fun wx => used_any (xn : Int) (yn : Int) wx
      have hzr := HK.out.size
      by_cases hx0 : xn = 0
      · have hx0i : (xn : Int) = 0 := by omega
        rw [if_pos hx0i] at HCS HCB
        rw [hx0i] at kU hix
        rw [show ((0 : Int) != 0) = false from rfl] at kU
        have HBT := hid (show cBot sl (k + 1) = cBot sl k from by omega)
        clear hx0 hx0i h1 hbs hxn hyn
        go_wp2_with (go_at_call 53; (with_reducible refine (kU _).mono ?_); rintro e w3 ⟨rfl, hk3⟩; have HK3 : Hid (Same wr w3) := ((Kept.refl _ _).alloc _).trans hk3; clear hk3)
        go_roundw
        case rel => exact ⟨k + 1, by omega, by rw [HBT.out], by go_num, by rw [HCS.out]; exact HS.out.same HK3.out, by rw [HCB.out]; exact HM.out.same HK3.out, HK.out.next HK3.out (fun i hi e => e.elim)⟩
        case measure => simp [intOf]; omega
      have hxi : ¬ (xn : Int) = 0 := by omega
      rw [if_neg hxi] at HCS HCB
      have hx2 : ((xn : Int) != 0) = true := by simp; omega
      rw [hx2] at kU
      obtain ⟨bn, hbn⟩ : ∃ n : Nat, cBot sl (k + 1) = (n : Int) := ⟨(cBot sl (k + 1)).toNat, by omega⟩
      have HBN := hid hbn
      rw [hbn] at HCS HCB hbs hb1
      rw [Int.toNat_natCast] at HCB
      have hxy : xn + yn ≤ 4096 := by omega
      have hbn2 : bn + yn ≤ 4096 := by omega
      have HSTR := (show Hid (stretch raw (xn : Int) (yn : Int) = (raw.drop xn).take yn) from by unfold Hid stretch; simp)
      rw [HSTR.out] at HCB
      have hstl : ((raw.drop xn).take yn).length = yn := by rw [List.length_take, List.length_drop, HP.out.l3]; omega
      have HST := hid hstl
      have kR := fun wx (h : SP wx P sum lsn num bot (cSl sl k) raw) => record_any P sum lsn num bot (cSl sl k) raw xn yn wx h hxy
      have HBL := hid (HOK.out.body raw HP.out.l3 k hk)
      obtain ⟨cb, hcb0⟩ : ∃ x, cBot sl k = x := ⟨_, rfl⟩
      rw [hcb0] at hbs hb0 ⊢
      have q1 : IntKind.i64.wrap (cb - (yn : Int)) = (bn : Int) := by rw [IntKind.wrap_i64]; omega
      have g2 : (bn : Int) ≤ 4096 := by omega
      obtain ⟨ab, hab⟩ : ∃ ab : Option Addr, some (if 4096 = bn then (⟨w.heap.size, 0, none⟩ : Addr) else ⟨w.heap.size, bn, none⟩) = ab := ⟨_, rfl⟩
      have HAB := (show Hid (behind w.heap.size 4096 bn = ab) from by rw [← hab]; unfold behind Hid; split <;> rfl)
      clear h1 hbs hxn hyn hstl hb0 hcb0 hbn hx0 HSTR
      go_wp2_with fail
      refine (kU _).mono ?_
      rintro e w3 ⟨rfl, hk3⟩
      have HB3 := hid ((Blk.newL wr [.int .i64 (xn : Int), .int .i64 (yn : Int)] 69).same hk3)
      have HK3 : Hid (Same wr w3) := ((Kept.refl _ _).alloc _).trans hk3
      obtain ⟨BS, hBS⟩ : ∃ b, wr.heap.size = b := ⟨_, rfl⟩
      rw [hBS] at HB3 ⊢
      have HBS : Hid (w.heap.size < BS ∧ P < BS) := by have h1 := HM.out.lt; have h2 := HS.out.blk.lt; unfold Hid; omega
      obtain ⟨d0, d1⟩ := HB3.out.all2
      have HS3 := hid (HS.out.same HK3.out)
      have HM3 := hid (HM.out.same HK3.out)
      clear hk3 kU hBS
      go_wp2_with fail
      have hS : (fun wx : World => wx.cell? ⟨BS, 0, none⟩ = some (.int .i64 (xn : Int)) ∧ wx.cell? ⟨BS, 1, none⟩ = some (.int .i64 (yn : Int))) w3.drew := ⟨d0, d1⟩
      refine wp_region_V (fun wx : World => wx.cell? ⟨BS, 0, none⟩ = some (.int .i64 (xn : Int)) ∧ wx.cell? ⟨BS, 1, none⟩ = some (.int .i64 (yn : Int))) 99 6 rfl (by kernel_rfl) ?_
      refine tk 0 21 hS ?_
      refine tkV 1 22 (.slice ab (4096 - bn) (4096 - bn)) hS ?_
      refine tk 2 23 hS ?_
      refine tk 3 24 hS ?_
      refine wpAnyV_one (i := 4) (by kernel_rfl) rfl (fun K hK => ?_)
      go_simp
      refine (kR _ (HS3.out.same (Kept.refl _ _).drew)).mono ?_
      rintro e w4 ⟨a4, c4, rfl, hr4, hk4⟩
      have HK4 : Hid (Same w3 w4) := (Kept.refl _ _).drew.trans hk4
      have HS4 := hid (HS3.out.same HK4.out)
      have HM4 := hid (HM3.out.same HK4.out)
      have hcp := run_copyOwn (P := Try.prog) 3 Try.underlying22 byte_one (xs := cBody raw sl k) (n := 4096) (cap := 4096) (by have h := Blk.own HM4.out (by rw [HBL.out]; unfold maxLen; omega); rw [HBL.out] at h; exact h) HBL.out.symm bn (by rw [HST.out]; omega) (by have h := hr4; exact h)
      rw [HAB.out, HST.out] at hcp
      have hS : (fun wx : World => wx.cell? ⟨BS, 0, none⟩ = some (.int .i64 (xn : Int)) ∧ wx.cell? ⟨BS, 1, none⟩ = some (.int .i64 (yn : Int))) w4 := ⟨HK4.out.cellOf d0 id, HK4.out.cellOf d1 id⟩
      refine hK.out _ _ (fun _ => hS) ?_
      clear hK K hk4 hr4
      try simp only [Act.put, sA, s0, sS]
      have HB4 := hid (HB3.out.same HK4.out)
      refine wpAnyV_one (i := 5) (by kernel_rfl) rfl (fun K hK => ?_)
      go_simp
      have hk45 : Kept (fun b => b = w.heap.size) w4 (w4.setCells w.heap.size bn (vals .u8 ((raw.drop xn).take yn))) := Kept.setCells (R := fun b => b = w.heap.size) (.inr rfl) _ _ (Kept.refl _ _)
      have HB5 := hid (HB4.out.kept hk45 (by have := HBS.out; omega))
      have HS5 := hid (HS4.out.kept hk45 (by omega))
      have HM5 := (show Hid (Blk (w4.setCells w.heap.size bn (vals .u8 ((raw.drop xn).take yn))) w.heap.size 50 (vals .u8 (layI (cBody raw sl k) bn ((raw.drop xn).take yn)))) from by
        have h := Blk.setCells (vals .u8 ((raw.drop xn).take yn)) bn HM4.out (by rw [vals_length, vals_length, HST.out, HBL.out]; omega)
        rw [lay_layI] at h
        exact h)
      have HK5 := (show Hid (Kept (fun b => b = P) w (w4.setCells w.heap.size bn (vals .u8 ((raw.drop xn).take yn)))) from Kept.setCells (R := fun b => b = P) (.inl (Nat.le_refl _)) _ _ (HK.out.trans ((HK3.out.trans HK4.out).mono (fun _ _ e => e.elim))))
      refine hK.out _ _ (fun _ => ⟨HB5.out.cell 0, HB5.out.cell 1⟩) ?_
      clear hK K hcp hk45
      try simp only [Act.put, sA, s0, sS]
      refine wpAnyV_done (by kernel_rfl) ?_
      rw [← HCB.out] at HM5
      generalize w4.setCells w.heap.size bn (vals .u8 ((raw.drop xn).take yn)) = w5 at HB5 HS5 HM5 HK5 ⊢
      have c0 := HS5.out.slAt (2 * k) (by omega)
      rw [show 7 + 2 * k = 7 + k * 2 from by omega] at c0
      have cf := HS5.out.blk.frozen (7 + k * 2)
      have HS6 := hid (HS5.out.slot (2 * k) (by omega) (bn : Int))
      rw [show 7 + 2 * k = 7 + k * 2 from by omega, ← HCS.out] at HS6
      have hk56 : Kept (fun b => b = P) w5 (w5.setCell ⟨P, 7 + k * 2, none⟩ (.int .i64 (bn : Int))) := Kept.setCell (R := fun b => b = P) (Kept.refl _ _) (p := ⟨P, 7 + k * 2, none⟩) (.inr rfl) _
      have HM6 := hid (HM5.out.kept hk56 (by omega))
      have HK6 := hid (HK5.out.trans hk56)
      generalize (cSl sl k).getD (2 * k) 0 = uo at c0
      clear hk56 d0 d1 hS
      go_wp2
      go_roundw
      case rel => exact ⟨k + 1, by omega, by rw [HBN.out], by go_num, HS6, HM6, HK6⟩
      case measure => simp [intOf]; omega
    obtain rfl : k = 32 := by omega
    have HBL := HOK.out.body raw HP.out.l3 32 hk
    obtain ⟨ds, hds⟩ : ∃ ds : List Value, vals .u8 (cBody raw sl 32) = ds := ⟨_, rfl⟩
    have HDS := hid hds
    have hdl : ds.length = 4096 := by rw [← hds, vals_length, HBL]
    have hone : ∀ v ∈ ds, v.oneCell' = true := by rw [← hds]; exact vals_one
    have HM2 := HM.out
    rw [hds] at HM2
    have HRG := (show Hid (wr.rangeAt w.heap.size 0 ds) from HM2.rangeAll)
    have HTH := (show Hid (wr.there P 71 ds.toArray.size) from HS.out.blk.there 71 _ (by rw [spCells_length HS.out.l1 HS.out.l2 HS.out.l3, List.size_toArray, hdl]; omega))
    have HI := (show Hid ((Try.prog.info? 50).map (·.size) = some ds.length) from (by rw [hdl]; exact (by kernel_rfl : (Try.prog.info? 50).map (·.size) = some 4096) : (Try.prog.info? 50).map (·.size) = some ds.length))
    have HI2 := (show Hid ((Try.prog.info? 50).map (·.size) = some ds.toArray.size) from by rw [List.size_toArray]; exact HI.out)
    have HONE := (show Hid (ds.toArray.all (·.oneCell') = true) from all_oneCell_toArray hone)
    have HS7 := (show Hid (SP (wr.setCells P 71 ds) P sum lsn num bot (cSl sl 32) (cBody raw sl 32)) from by rw [← HDS.out]; exact HS.out.setRaw _ HBL)
    have HK7 := (show Hid (Kept (fun b => b = P) w (wr.setCells P 71 ds)) from Kept.setCells (R := fun b => b = P) (.inr rfl) _ _ HK.out)
    obtain ⟨n0, n1, n2⟩ := HS7.out.num3
    have nf := HS7.out.blk.frozen 6
    have HS8 := hid (HS7.out.setBot (cBot sl 32))
    have HK8 := (show Hid (Kept (fun b => b = P) w ((wr.setCells P 71 ds).setCell ⟨P, 6, none⟩ (.int .i64 (cBot sl 32)))) from Kept.setCell (R := fun b => b = P) HK7.out (p := ⟨P, 6, none⟩) (.inr rfl) _)
    obtain ⟨cb, hcb0⟩ : ∃ x, cBot sl 32 = x := ⟨_, rfl⟩
    rw [hcb0] at HS8 HK8 ⊢
    have HCB0 := hid hcb0
    clear hds hdl hone HM2 HBL hcb0 HDS
    go_wp2_with (first
      | (refine wpList_load_mid rfl 50 _ rfl w.heap.size 0 rfl ds _ HRG.out Try.underlying50 rfl HI.out ?_)
      | (refine wpList_store_mid rfl 50 _ _ rfl P 71 ds.toArray rfl rfl HTH.out HI2.out HONE.out ?_))
    refine bodyPost_end (results_none Try.results37 _ _ _) rfl ?_
    exact ⟨rfl, by rw [HCB0.out]; exact HS8.out, HK8.out⟩
end Go.Proofs.Ytbiagmnkdihmiaa

namespace Go.Proofs.Ytbiagmnkdihmiaa
open Go.RowKit
set_option linter.unusedVariables false
set_option linter.unusedSimpArgs false
theorem getN_lows {x : Int} {n : Nat} (hn : 1 ≤ n) (hn8 : n ≤ 8) (h0 : 0 ≤ x) (h1 : x < 256 ^ n) (h2 : x ≤ 9223372036854775807) : getN (lows x n) = x := by
  obtain ⟨m, rfl⟩ : ∃ m : Nat, x = (m : Int) := ⟨x.toNat, by omega⟩
  have e : num (lows (m : Int) n) = (m : Int) := by
    rw [num_lows, Nat.mod_eq_of_lt]
    have : ((256 ^ n : Nat) : Int) = (256 : Int) ^ n := by simp
    omega
  unfold getN
  rw [e, lows_length, if_neg (by omega)]
theorem take_mid (A B C : List Int) : ((A ++ (B ++ C)).drop A.length).take B.length = B := by
  rw [List.drop_left, List.take_left]
theorem take_midN (A B C : List Int) (a b : Nat) (ha : a = A.length) (hb : b = B.length) : ((A ++ (B ++ C)).drop a).take b = B := by subst ha hb; exact take_mid A B C
theorem slotB_at (sl : List Int) (j : Nat) (hj : j < sl.length) : ((slotB sl).drop (2 * j)).take 2 = lows (sl.getD j 0) 2 := by
  have e : sl = sl.take j ++ (sl[j] :: sl.drop (j + 1)) := by rw [← List.drop_eq_getElem_cons hj, List.take_append_drop]
  have hg : sl.getD j 0 = sl[j] := by simp [hj]
  rw [hg]
  conv => lhs; rw [e]
  rw [slotB_append, show slotB (sl[j] :: sl.drop (j + 1)) = lows sl[j] 2 ++ slotB (sl.drop (j + 1)) from by unfold slotB; rw [List.flatMap_cons]]
  exact take_midN _ _ _ _ _ (by rw [slotB_length, List.length_take]; omega) (by rw [lows_length])
structure EncOK (sum : List Int) (lsn num bot : Int) (sl raw : List Int) : Prop where
  s4 : sum.length = 4
  sl64 : sl.length = 64
  r : raw.length = 4096
  lsn : 0 ≤ lsn ∧ lsn ≤ 9223372036854775807
  num : 0 ≤ num ∧ num < 4294967296
  bot : 0 ≤ bot ∧ bot ≤ 65535
  sls : ∀ x ∈ sl, 0 ≤ x ∧ x ≤ 65535
section
variable {sum : List Int} {lsn num bot : Int} {sl raw : List Int}
theorem EncOK.flat (h : EncOK sum lsn num bot sl raw) : encB sum lsn num bot sl raw = sum ++ (lows lsn 8 ++ (lows num 4 ++ (lows bot 2 ++ (lows 0 2 ++ (slotB sl ++ raw.drop 148))))) := by
  rw [encB_eq _ _ _ _ _ _ h.s4 h.sl64]
  simp [headB]
theorem EncOK.len (h : EncOK sum lsn num bot sl raw) : (encB sum lsn num bot sl raw).length = 4096 := encB_length h.s4 h.sl64 h.r
theorem EncOK.sum4 (h : EncOK sum lsn num bot sl raw) : (encB sum lsn num bot sl raw).take 4 = sum := by
  rw [h.flat, List.take_append_of_le_length (by rw [h.s4]; exact Nat.le_refl _), List.take_of_length_le (by rw [h.s4]; exact Nat.le_refl _)]
theorem EncOK.dec (h : EncOK sum lsn num bot sl raw) : numAt (encB sum lsn num bot sl raw) 4 8 = lsn ∧ numAt (encB sum lsn num bot sl raw) 12 4 = num ∧ numAt (encB sum lsn num bot sl raw) 16 2 = bot := by
  refine ⟨?_, ?_, ?_⟩
  · unfold numAt
    rw [h.flat, take_midN _ _ _ _ _ (by rw [h.s4]) (by rw [lows_length])]
    exact getN_lows (by decide) (by decide) h.lsn.1 (by have := h.lsn.2; have : (256 : Int) ^ 8 = 18446744073709551616 := by decide
                                                        omega) h.lsn.2
  · unfold numAt
    rw [h.flat, ← List.append_assoc, take_midN _ _ _ _ _ (by rw [List.length_append, h.s4, lows_length]) (by rw [lows_length])]
    exact getN_lows (by decide) (by decide) h.num.1 (by have := h.num.2; have : (256 : Int) ^ 4 = 4294967296 := by decide
                                                        omega) (by have := h.num.2; omega)
  · unfold numAt
    rw [h.flat, ← List.append_assoc, ← List.append_assoc, take_midN _ _ _ _ _ (by rw [List.length_append, List.length_append, h.s4, lows_length, lows_length]) (by rw [lows_length])]
    exact getN_lows (by decide) (by decide) h.bot.1 (by have := h.bot.2; have : (256 : Int) ^ 2 = 65536 := by decide
                                                        omega) (by have := h.bot.2; omega)
theorem EncOK.behind (h : EncOK sum lsn num bot sl raw) : (encB sum lsn num bot sl raw).drop 148 = raw.drop 148 := by
  rw [encB_eq _ _ _ _ _ _ h.s4 h.sl64, ← List.append_assoc, List.drop_append, List.drop_of_length_le (by rw [List.length_append, headB_length _ _ _ _ h.s4, slotB_length, h.sl64]; decide), List.nil_append, List.length_append, headB_length _ _ _ _ h.s4, slotB_length, h.sl64]
  rfl
theorem EncOK.slots (h : EncOK sum lsn num bot sl raw) : slotsOf (encB sum lsn num bot sl raw) = sl := by
  apply List.ext_getElem?
  intro j
  by_cases hj : j < 64
  · rw [List.getElem?_eq_getElem (by rw [slotsOf_length]; exact hj), List.getElem?_eq_getElem (by rw [h.sl64]; exact hj)]
    have e1 : (slotsOf (encB sum lsn num bot sl raw))[j]'(by rw [slotsOf_length]; exact hj) = (slotsOf (encB sum lsn num bot sl raw)).getD j 0 := by simp [slotsOf_length, hj]
    have e2 : sl[j]'(by rw [h.sl64]; exact hj) = sl.getD j 0 := by simp [h.sl64, hj]
    rw [e1, e2, slotsOf_at _ j hj]
    congr 1
    unfold numAt
    rw [encB_eq _ _ _ _ _ _ h.s4 h.sl64]
    have hd : (headB sum lsn num bot ++ (slotB sl ++ raw.drop 148)).drop (20 + 2 * j) = (slotB sl).drop (2 * j) ++ raw.drop 148 := by
      rw [List.drop_append, List.drop_of_length_le (by rw [headB_length _ _ _ _ h.s4]; omega), List.nil_append, headB_length _ _ _ _ h.s4, Nat.add_sub_cancel_left, List.drop_append_of_le_length (by rw [slotB_length, h.sl64]; omega)]
    rw [hd, List.take_append_of_le_length (by rw [List.length_drop, slotB_length, h.sl64]; omega), slotB_at sl j (by rw [h.sl64]; exact hj)]
    have hb : 0 ≤ sl.getD j 0 ∧ sl.getD j 0 ≤ 65535 := by rw [← e2]; exact h.sls _ (List.getElem_mem _)
    exact getN_lows (by decide) (by decide) hb.1 (by have : (256 : Int) ^ 2 = 65536 := by decide
                                                     omega) (by omega)
  · rw [List.getElem?_eq_none (by rw [slotsOf_length]; omega), List.getElem?_eq_none (by rw [h.sl64]; omega)]
theorem EncOK.again (h : EncOK sum lsn num bot sl raw) : encB sum lsn num bot sl (encB sum lsn num bot sl raw) = encB sum lsn num bot sl raw := by
  rw [encB_eq _ _ _ _ _ (encB sum lsn num bot sl raw) h.s4 h.sl64, h.behind, ← encB_eq _ _ _ _ _ _ h.s4 h.sl64]
theorem EncOK.own (h : EncOK sum lsn num bot sl raw) (hL : isLSN lsn = true) (hb : 148 ≤ bot ∧ bot ≤ 4096) (ha : astray bot sl = false) (hs : share sl = false) : ownOK (encB sum lsn num bot sl raw) = true := by
  obtain ⟨d1, d2, d3⟩ := h.dec
  unfold ownOK pageFault faultP
  rw [h.sum4, d1, d2, d3, h.slots, h.len]
  have hh : headBad sum lsn num bot sl (encB sum lsn num bot sl raw) = false := by
    unfold headBad
    rw [hL, h.again]
    simp
  rw [hh, ha, hs]
  simp
  omega
end
def sl0 (sl : List Int) (s : Nat) : List Int := (sl.set (2 * s) 0).set (2 * s + 1) 0
theorem sl0_length (sl : List Int) (s : Nat) : (sl0 sl s).length = sl.length := by simp [sl0]
theorem sl0_at (sl : List Int) (s j : Nat) : (sl0 sl s).getD j 0 = if j = 2 * s ∨ j = 2 * s + 1 then 0 else sl.getD j 0 := by
  unfold sl0
  simp only [List.getD_eq_getElem?_getD]
  by_cases h1 : j = 2 * s + 1
  · subst h1
    rw [if_pos (.inr rfl)]
    by_cases hl : 2 * s + 1 < sl.length
    · rw [List.getElem?_set_self (by rw [List.length_set]; exact hl)]; rfl
    · rw [List.getElem?_eq_none (by rw [List.length_set, List.length_set]; omega)]; rfl
  · rw [List.getElem?_set_ne (by omega)]
    by_cases h2 : j = 2 * s
    · subst h2
      rw [if_pos (.inl rfl)]
      by_cases hl : 2 * s < sl.length
      · rw [List.getElem?_set_self hl]; rfl
      · rw [List.getElem?_eq_none (by rw [List.length_set]; omega)]; rfl
    · rw [List.getElem?_set_ne (by omega), if_neg (by omega)]
theorem sl0_two (sl : List Int) (s k : Nat) : ((sl0 sl s).getD (2 * k) 0 = if k = s then 0 else sl.getD (2 * k) 0) ∧ ((sl0 sl s).getD (2 * k + 1) 0 = if k = s then 0 else sl.getD (2 * k + 1) 0) := by
  rw [sl0_at, sl0_at]
  by_cases e : k = s
  · subst e; simp
  · refine ⟨?_, ?_⟩
    · rw [if_neg (by omega), if_neg e]
    · rw [if_neg (by omega), if_neg e]
theorem SlOK.zero {sl : List Int} (h : SlOK sl) (s : Nat) : SlOK (sl0 sl s) := by
  refine ⟨fun k hk => ?_, fun i j hi hj => ?_⟩
  · obtain ⟨e1, e2⟩ := sl0_two sl s k
    rw [e1, e2]
    by_cases e : k = s
    · rw [if_pos e, if_pos e]; exact .inl ⟨rfl, rfl⟩
    · rw [if_neg e, if_neg e]; exact h.one k hk
  · obtain ⟨e1, e2⟩ := sl0_two sl s i
    obtain ⟨e3, e4⟩ := sl0_two sl s j
    rw [e1, e2, e3, e4]
    have h1 := h.two i j hi hj
    have h2 := h.one i hi
    have h3 := h.one j (by omega)
    by_cases ei : i = s
    · rw [if_pos ei, if_pos ei]; omega
    · rw [if_neg ei, if_neg ei]
      by_cases ej : j = s
      · rw [if_pos ej, if_pos ej]; omega
      · rw [if_neg ej, if_neg ej]; exact h1
theorem usedN_zero (sl : List Int) (s : Nat) : ∀ k, usedN (sl0 sl s) k = usedN sl k - (if s < k then sl.getD (2 * s + 1) 0 else 0)
  | 0 => by simp [usedN]
  | k + 1 => by
    rw [usedN, usedN, usedN_zero sl s k, (sl0_two sl s k).2]
    by_cases e : k = s
    · subst e
      rw [if_pos rfl, if_neg (by omega), if_pos (by omega)]
      omega
    · rw [if_neg e]
      by_cases h : s < k
      · rw [if_pos h, if_pos (by omega)]; omega
      · rw [if_neg h, if_neg (by omega)]; omega
theorem SlOK.astray0 {sl : List Int} {bot : Int} (h : ∀ k, k < 32 → astrayAt bot (sl.getD (2 * k) 0) (sl.getD (2 * k + 1) 0) = false) : astray bot sl = false := by
  unfold astray
  rw [List.any_eq_false]
  intro i hi
  rw [h i (List.mem_range.1 hi)]
  simp
theorem SlOK.share0 {sl : List Int} (h : SlOK sl) : share sl = false := by
  refine share_no sl (fun i hi j hj => ?_)
  unfold shareAt sharesB
  simpa using h.two i j hi hj
theorem cBody_eq {sl : List Int} (h : SlOK sl) (raw raw' : List Int) (e : raw.drop 148 = raw'.drop 148) : ∀ k, k ≤ 32 → cBody raw sl k = cBody raw' sl k
  | 0, _ => rfl
  | k + 1, hk => by
    rw [cBody, cBody, cBody_eq h raw raw' e k (by omega)]
    split
    · rfl
    · rename_i h0
      have h1 := h.one k (by omega)
      have hs : stretch raw (sl.getD (2 * k) 0) (sl.getD (2 * k + 1) 0) = stretch raw' (sl.getD (2 * k) 0) (sl.getD (2 * k + 1) 0) := by
        unfold stretch
        obtain ⟨m, hm⟩ : ∃ m, (sl.getD (2 * k) 0).toNat = 148 + m := ⟨(sl.getD (2 * k) 0).toNat - 148, by omega⟩
        rw [hm, ← List.drop_drop, ← List.drop_drop, e]
      rw [hs]
/-! ### The page that is set -/
def setPut (sum : List Int) (lsn num bt : Int) (sl body : List Int) (s : Nat) (d : List Int) : List Int :=
  encB sum lsn num (bt - d.length) ((sl.set (2 * s) (bt - d.length)).set (2 * s + 1) d.length) (layI body (bt - d.length).toNat d)
def setB (raw : List Int) (s : Nat) (u : Bool) (d : List Int) (lsn : Int) : List Int :=
  if u = false then encB (raw.take 4) lsn (numAt raw 12 4) (numAt raw 16 2) (sl0 (slotsOf raw) s) raw
  else if numAt raw 16 2 - 148 < d.length then setPut (raw.take 4) lsn (numAt raw 12 4) (cBot (sl0 (slotsOf raw) s) 32) (cSl (sl0 (slotsOf raw) s) 32) (cBody raw (sl0 (slotsOf raw) s) 32) s d
  else setPut (raw.take 4) lsn (numAt raw 12 4) (numAt raw 16 2) (sl0 (slotsOf raw) s) raw s d
def setBad (raw : List Int) (s : Int) (u : Bool) (d : List Int) (lsn : Int) : Bool := !ownOK raw || (decide (s < 0) || (decide (32 ≤ s) || (decide (lsn < 0) || (decide (1099511627776 < lsn) || (decide (1000 < d.length) || (!u && decide (0 < d.length)))))))
def setFull (raw : List Int) (s : Nat) (d : List Int) : Prop := 3948 < usedN (slotsOf raw) 32 - (slotsOf raw).getD (2 * s + 1) 0 + d.length
instance (raw : List Int) (s : Nat) (d : List Int) : Decidable (setFull raw s d) := inferInstanceAs (Decidable (_ < _))
def pageSet (raw : List Int) (s : Int) (u : Bool) (d : List Int) (lsn : Int) : Int × List Int :=
  if setBad raw s u d lsn = true then (1, []) else if setFull raw s.toNat d then (2, []) else (0, setB raw s.toNat u d lsn)
end Go.Proofs.Ytbiagmnkdihmiaa

namespace Go.Proofs.Ytbiagmnkdihmiaa
set_option maxRecDepth 100000
set_option maxHeartbeats 8000000
open Go.RowKit
set_option linter.unusedVariables false
set_option linter.unusedSimpArgs false
section
variable {w : World} {P : Nat} {sum : List Int} {lsn num bot : Int} {sl raw : List Int}
theorem SP.layRaw (h : SP w P sum lsn num bot sl raw) (bn : Nat) (d : List Int) (hd : bn + d.length ≤ 4096) : SP (w.setCells P (71 + bn) (vals .u8 d)) P sum lsn num bot sl (layI raw bn d) := by
  refine ⟨?_, h.l1, h.l2, by rw [layI_length _ _ _ (by rw [h.l3]; exact hd), h.l3]⟩
  have hs := Blk.setCells (vals .u8 d) (71 + bn) h.blk (by rw [spCells_length h.l1 h.l2 h.l3, vals_length]; omega)
  have e : ∀ r : List Int, spCells sum lsn num bot sl r = (vals .u8 sum ++ (.int .i64 lsn :: .int .i64 num :: .int .i64 bot :: vals .i64 sl)) ++ vals .u8 r := fun r => by simp [spCells]
  have hA : (vals .u8 sum ++ (.int .i64 lsn :: .int .i64 num :: .int .i64 bot :: vals .i64 sl)).length = 71 := by simp [vals, h.l1, h.l2]
  have hl : lay (spCells sum lsn num bot sl raw) (71 + bn) (vals .u8 d) = spCells sum lsn num bot sl (layI raw bn d) := by
    rw [e raw, e (layI raw bn d), ← lay_layI, ← hA]
    unfold lay
    rw [List.take_append, List.take_of_length_le (by omega), Nat.add_sub_cancel_left, List.append_assoc, List.drop_append, List.drop_of_length_le (by omega), List.nil_append, show (vals .u8 sum ++ (.int .i64 lsn :: .int .i64 num :: .int .i64 bot :: vals .i64 sl)).length + bn + (vals .u8 d).length - (vals .u8 sum ++ (.int .i64 lsn :: .int .i64 num :: .int .i64 bot :: vals .i64 sl)).length = bn + (vals .u8 d).length from by omega]
  rw [hl] at hs
  exact hs
def rawB (P bn : Nat) : Option Addr := some (if 4096 = bn then (⟨P, 71, none⟩ : Addr) else ⟨P, 71 + bn, none⟩)
theorem run_copySP {T tb : TypeId} {sv : Value} {d : List Int} (ty : TypeId) (hu : Try.prog.underlying T = some (.slice tb)) (hsz : (Try.prog.info? tb).map (·.size) = some 1) (h : SP w P sum lsn num bot sl raw) (bn : Nat) (hd : bn + d.length ≤ 4096) (hs : Rd .u8 w sv d) :
    (Builtin.copy_ #[T, T] ty #[.slice (rawB P bn) (4096 - bn) (4096 - bn), sv]).run Try.prog w = .ok (goInt d.length) (w.setCells P (71 + bn) (vals .u8 d)) := by
  rcases hs.2 with ⟨rfl, a, c, rfl, _⟩ | ⟨b, off, c, rfl, _, hc⟩
  · have h := run_copy_none (P := Try.prog) w T T ty tb (rawB P bn) a (4096 - bn) (4096 - bn) 0 c hu hsz (by simp)
    rw [h]
    rfl
  · by_cases h0 : d.length = 0
    · obtain rfl : d = [] := List.length_eq_zero_iff.1 h0
      have h := run_copy_none (P := Try.prog) w T T ty tb (rawB P bn) (some ⟨b, off, none⟩) (4096 - bn) (4096 - bn) 0 c hu hsz (by simp)
      simp only [List.length_nil] at h ⊢
      rw [h]
      rfl
    · have e : rawB P bn = some ⟨P, 71 + bn, none⟩ := by unfold rawB; rw [if_neg (by omega)]
      rw [e]
      have hr := run_copy_cells (P := Try.prog) w T T ty tb P (71 + bn) (4096 - bn) (4096 - bn) ⟨b, off, none⟩ d.length c (vals .u8 d) hu hsz (by rw [vals_length]; exact (Nat.min_eq_left (by omega)).symm) (news_of hc) (fun j hj => by rw [vals_length] at hj; rw [Nat.add_assoc, h.rawAt (bn + j) (by omega)]; rfl) (fun j _ => h.blk.frozen _) vals_one
      rw [vals_length] at hr
      exact hr
end
theorem fits_slot_any (u : Bool) (a : Option Addr) (n c : Nat) (w : World) (hn : n ≤ 1099511627776) :
    Calls Try.prog 62 #[.agg #[.bool u, .slice a n c]] w fun e w' => e = .returned (.bool (decide (n ≤ 1000) && (u || decide (n = 0)))) ∧ Same w w' := by
  have HK0 := hid (sameA w [.bool u, .slice a n c] 33)
  have b0 := Blk.newL w [.bool u, .slice a n c] 33
  obtain ⟨c0, c1⟩ := b0.all2
  by_cases h1 : n ≤ 1000
  · have h1i : (n : Int) ≤ 1000 := by omega
    cases u with
    | true =>
      go_enter Try.func62, Try.ntmps62
      go_wp2
      go_ret
      exact ⟨by simp [h1], HK0.out⟩
    | false =>
      by_cases h2 : n = 0
      · have h2i : (n : Int) = 0 := by omega
        subst h2
        go_enter Try.func62, Try.ntmps62
        go_wp2
        go_ret
        exact ⟨by simp, HK0.out⟩
      · have h2i : ((n : Int) == 0) = false := by simp; omega
        go_enter Try.func62, Try.ntmps62
        go_wp2
        go_ret
        exact ⟨by simp [h1, h2]; try omega, HK0.out⟩
  · have h1i : ¬ (n : Int) ≤ 1000 := by omega
    go_enter Try.func62, Try.ntmps62
    go_wp2
    go_ret
    exact ⟨by simp [h1], HK0.out⟩
def SetR (w' : World) (P : Nat) (sum : List Int) (lsn num bot : Int) (sl raw : List Int) (s : Nat) (u : Bool) (d : List Int) : Prop :=
  if u = false then SP w' P sum lsn num bot (sl0 sl s) raw
  else if bot - 148 < d.length then SP w' P sum lsn num (cBot (sl0 sl s) 32 - d.length) (((cSl (sl0 sl s) 32).set (2 * s) (cBot (sl0 sl s) 32 - d.length)).set (2 * s + 1) d.length) (layI (cBody raw (sl0 sl s) 32) (cBot (sl0 sl s) 32 - d.length).toNat d)
  else SP w' P sum lsn num (bot - d.length) (((sl0 sl s).set (2 * s) (bot - d.length)).set (2 * s + 1) d.length) (layI raw (bot - d.length).toNat d)
theorem setSP_any (P : Nat) (sum : List Int) (lsn num bot : Int) (sl raw : List Int) (s : Nat) (u : Bool) (ta : Option Addr) (tc : Nat) (d : List Int) (w : World) (hp : SP w P sum lsn num bot sl raw) (hok : SlOK sl) (hs : s < 32) (hb : 148 ≤ bot ∧ bot ≤ 4096) (hd : d.length ≤ 1000) (hroom : 148 ≤ cBot (sl0 sl s) 32 - d.length)
    (hv : Rd .u8 w (.slice ta d.length tc) d) (hnP : ∀ w', Kept (fun b => b = P) w w' → Rd .u8 w' (.slice ta d.length tc) d) :
    Calls Try.prog 63 #[.pointer (some ⟨P, 0, none⟩), .int .i64 (s : Int), .agg #[.bool u, .slice ta d.length tc]] w fun e w' => e = .returned (.tuple #[]) ∧ SetR w' P sum lsn num bot sl raw s u d ∧ Kept (fun b => b = P) w w' := by
  have HV := hid hv
  have HNP := hid hnP
  have HOK := hid (hok.zero s)
  have hPl := hp.blk.lt
  have hs3 : (s : Int) < 32 := by omega
  have hbb := (hok.zero s).bot 32 (Nat.le_refl _)
  obtain ⟨n, hn⟩ : ∃ n, d.length = n := ⟨_, rfl⟩
  have HN := hid hn
  rw [hn] at hd hroom HV HNP ⊢
  obtain ⟨w1, hw1⟩ : ∃ x, w.alloc (.cells #[.bool u, .slice ta n tc] 33) = x := ⟨_, rfl⟩
  have HR1 := (show Hid (Blk w1 w.heap.size 33 [.bool u, .slice ta n tc]) from by rw [← hw1]; exact Blk.newL w [.bool u, .slice ta n tc] 33)
  have HK1 := (show Hid (Same w w1) from by rw [← hw1]; exact (Kept.refl _ _).alloc _)
  have HP1 := hid (hp.same HK1.out)
  have c0 := HP1.out.slAt (2 * s) (by omega)
  have c1 := HP1.out.slAt (2 * s + 1) (by omega)
  have cf := HP1.out.blk.frozen
  have HP2 := (show Hid (SP ((w1.setCell ⟨P, 7 + s * 2, none⟩ (.int .i64 0)).setCell ⟨P, 7 + s * 2 + 1, none⟩ (.int .i64 0)) P sum lsn num bot (sl0 sl s) raw) from by
    have h := (HP1.out.slot (2 * s) (by omega) 0).slot (2 * s + 1) (by omega) 0
    rw [show 7 + (2 * s + 1) = 7 + s * 2 + 1 from by omega, show 7 + 2 * s = 7 + s * 2 from by omega] at h
    exact h)
  rw [show 7 + (2 * s + 1) = 7 + s * 2 + 1 from by omega] at c1
  rw [show 7 + 2 * s = 7 + s * 2 from by omega] at c0
  have hk12 : Kept (fun b => b = P) w1 ((w1.setCell ⟨P, 7 + s * 2, none⟩ (.int .i64 0)).setCell ⟨P, 7 + s * 2 + 1, none⟩ (.int .i64 0)) := Kept.setCell (R := fun b => b = P) (Kept.setCell (R := fun b => b = P) (Kept.refl _ _) (p := ⟨P, 7 + s * 2, none⟩) (.inr rfl) _) (p := ⟨P, 7 + s * 2 + 1, none⟩) (.inr rfl) _
  have HK2 := hid ((HK1.out.mono (fun _ _ e => e.elim)).trans hk12)
  have HR2 := hid (HR1.out.kept hk12 (by omega))
  generalize sl.getD (2 * s) 0 = x0 at c0
  generalize sl.getD (2 * s + 1) 0 = x1 at c1
  clear hp hok hv hnP hn hk12
  have HW1 := hid hw1
  clear hw1
  cases u with
  | false =>
    obtain ⟨r0, r1⟩ := HR2.out.all2
    go_enter Try.func63, Try.ntmps63
    go_upto_region 1 with fail
    rw [HW1.out]
    generalize hw2 : (w1.setCell ⟨P, 7 + s * 2, none⟩ (.int .i64 0)).setCell ⟨P, 7 + s * 2 + 1, none⟩ (.int .i64 0) = w2 at *
    go_wp2
    refine bodyPost_ret (results_none (by rfl) _ _ _) rfl ?_
    exact ⟨rfl, by unfold SetR; rw [if_pos rfl]; exact HP2.out, HK2.out⟩
  | true =>
    obtain ⟨r0, r1⟩ := HR2.out.all2
    obtain ⟨n4, n5, n6⟩ := HP2.out.num3
    have q0 : IntKind.i64.wrap (bot - 148) = bot - 148 := by rw [IntKind.wrap_i64]; omega
    by_cases hbc : bot - 148 < (n : Int)
    · have kC := fun wx (h : SP wx P sum lsn num bot (sl0 sl s) raw) => compact_any P sum lsn num bot (sl0 sl s) raw wx h HOK.out
      go_enter Try.func63, Try.ntmps63
      go_upto_region 1 with fail
      rw [HW1.out]
      generalize hw2 : (w1.setCell ⟨P, 7 + s * 2, none⟩ (.int .i64 0)).setCell ⟨P, 7 + s * 2 + 1, none⟩ (.int .i64 0) = w2 at *
      go_wp2_with fail
      refine (kC _ HP2.out).mono ?_
      rintro e w3 ⟨rfl, hp3, hk3⟩
      have HP3 := hid hp3
      have HK3 := hid (HK2.out.trans hk3)
      have HR3 := hid (HR2.out.kept hk3 (by omega))
      obtain ⟨bt, hbt⟩ : ∃ x, cBot (sl0 sl s) 32 = x := ⟨_, rfl⟩
      have HFIN : Hid (∀ wx, SP wx P sum lsn num (bt - (n : Int)) (((cSl (sl0 sl s) 32).set (2 * s) (bt - (n : Int))).set (2 * s + 1) (n : Int)) (layI (cBody raw (sl0 sl s) 32) (bt - (n : Int)).toNat d) → SetR wx P sum lsn num bot sl raw s true d) := fun wx h => by
        unfold SetR
        rw [if_neg (by simp), HN.out, if_pos hbc, hbt]
        exact h
      rw [hbt] at HP3 hroom hbb
      obtain ⟨slx, hslx⟩ : ∃ x, cSl (sl0 sl s) 32 = x := ⟨_, rfl⟩
      obtain ⟨body, hbody⟩ : ∃ x, cBody raw (sl0 sl s) 32 = x := ⟨_, rfl⟩
      rw [hslx, hbody] at HP3 HFIN
      clear hp3 hk3 kC hbt hslx hbody n4 n5 n6 r0 r1
      obtain ⟨r0, r1⟩ := HR3.out.all2
      obtain ⟨n4, n5, n6⟩ := HP3.out.num3
      have nf := HP3.out.blk.frozen
      obtain ⟨bn, hbn⟩ : ∃ x : Nat, bt - (n : Int) = (x : Int) := ⟨(bt - (n : Int)).toNat, by omega⟩
      have q1 : IntKind.i64.wrap (bt - (n : Int)) = (bn : Int) := by rw [IntKind.wrap_i64, ← hbn]; omega
      have hbn2 : 148 ≤ bn ∧ bn + n ≤ 4096 := by omega
      rw [hbn, Int.toNat_natCast] at HFIN
      have HP4 := hid (HP3.out.setBot (bn : Int))
      have hk34 : Kept (fun b => b = P) w3 (w3.setCell ⟨P, 6, none⟩ (.int .i64 (bn : Int))) := Kept.setCell (R := fun b => b = P) (Kept.refl _ _) (p := ⟨P, 6, none⟩) (.inr rfl) _
      have HK4 := hid (HK3.out.trans hk34)
      have HR4 := hid (HR3.out.kept hk34 (by omega))
      obtain ⟨ab, hab⟩ : ∃ ab : Option Addr, some (if 4096 = bn then (⟨P, 71, none⟩ : Addr) else ⟨P, 71 + bn, none⟩) = ab := ⟨_, rfl⟩
      have HAB := (show Hid (rawB P bn = ab) from hab)
      have g2 : (bn : Int) ≤ 4096 := by omega
      clear hbn hk34
      go_upto_region 7 with fail
      generalize w3.setCell ⟨P, 6, none⟩ (.int .i64 (bn : Int)) = w4 at *
      clear n4 n5 n6 r0 r1 nf
      obtain ⟨n4, n5, n6⟩ := HP4.out.num3
      obtain ⟨r0, r1⟩ := HR4.out.all2
      have hS : (fun wx : World => wx.cell? ⟨P, 6, none⟩ = some (.int .i64 (bn : Int)) ∧ wx.cell? ⟨w.heap.size, 1, none⟩ = some (.slice ta n tc)) w4.drew := ⟨n6, r1⟩
      refine wp_region_V (fun wx : World => wx.cell? ⟨P, 6, none⟩ = some (.int .i64 (bn : Int)) ∧ wx.cell? ⟨w.heap.size, 1, none⟩ = some (.slice ta n tc)) 99 11 rfl (by kernel_rfl) ?_
      refine tk 0 36 hS ?_
      refine tk 1 37 hS ?_
      refine tk 2 38 hS ?_
      refine tk 3 39 hS ?_
      refine tk 4 40 hS ?_
      refine tk 5 41 hS ?_
      refine tk 6 42 hS ?_
      refine tkV 7 43 (.slice ab (4096 - bn) (4096 - bn)) hS ?_
      refine tk 8 44 hS ?_
      refine tk 9 45 hS ?_
      have HV4 := hid ((HNP.out _ HK4.out).same (Kept.refl _ _).drew)
      have hcp := run_copySP 3 Try.underlying22 byte_one (HP4.out.same (Kept.refl _ _).drew) bn (by rw [HN.out]; omega) HV4.out
      rw [HAB.out, HN.out] at hcp
      have HP5 := hid ((HP4.out.same (w' := w4.drew) (Kept.refl _ _).drew).layRaw bn d (by rw [HN.out]; omega))
      refine wpAnyV_one (i := 10) (by kernel_rfl) rfl (fun K hK => ?_)
      go_simp
      have hk45 : Kept (fun b => b = P) w4 (w4.drew.setCells P (71 + bn) (vals .u8 d)) := Kept.setCells (R := fun b => b = P) (.inr rfl) _ _ (Kept.refl _ _).drew
      have HK5 := hid (HK4.out.trans hk45)
      have HR5 := hid (HR4.out.kept hk45 (by omega))
      refine hK.out _ _ (fun _ => ⟨HP5.out.num3.2.2, HR5.out.cell 1⟩) ?_
      clear hK K hcp hk45
      try simp only [Act.put, sA, s0, sS]
      refine wpAnyV_done (by kernel_rfl) ?_
      generalize w4.drew.setCells P (71 + bn) (vals .u8 d) = w5 at HP5 HK5 HR5 ⊢
      clear n4 n5 n6 r0 r1 hS
      obtain ⟨n4, n5, n6⟩ := HP5.out.num3
      have nf := HP5.out.blk.frozen
      have d0 := HP5.out.slAt (2 * s) (by omega)
      have d1 := HP5.out.slAt (2 * s + 1) (by omega)
      rw [show 7 + (2 * s + 1) = 7 + s * 2 + 1 from by omega] at d1
      rw [show 7 + 2 * s = 7 + s * 2 from by omega] at d0
      have HP6 := (show Hid (SP ((w5.setCell ⟨P, 7 + s * 2, none⟩ (.int .i64 (bn : Int))).setCell ⟨P, 7 + s * 2 + 1, none⟩ (.int .i64 (n : Int))) P sum lsn num (bn : Int) ((slx.set (2 * s) (bn : Int)).set (2 * s + 1) (n : Int)) (layI body bn d)) from by
        have h := (HP5.out.slot (2 * s) (by omega) (bn : Int)).slot (2 * s + 1) (by omega) (n : Int)
        rw [show 7 + (2 * s + 1) = 7 + s * 2 + 1 from by omega, show 7 + 2 * s = 7 + s * 2 from by omega] at h
        exact h)
      have hk56 : Kept (fun b => b = P) w5 ((w5.setCell ⟨P, 7 + s * 2, none⟩ (.int .i64 (bn : Int))).setCell ⟨P, 7 + s * 2 + 1, none⟩ (.int .i64 (n : Int))) := Kept.setCell (R := fun b => b = P) (Kept.setCell (R := fun b => b = P) (Kept.refl _ _) (p := ⟨P, 7 + s * 2, none⟩) (.inr rfl) _) (p := ⟨P, 7 + s * 2 + 1, none⟩) (.inr rfl) _
      have HK6 := hid (HK5.out.trans hk56)
      clear hk56
      generalize slx.getD (2 * s) 0 = y0 at d0
      generalize slx.getD (2 * s + 1) 0 = y1 at d1
      go_wp2_with fail
      have hS : (fun wx : World => wx.cell? ⟨P, 6, none⟩ = some (.int .i64 (bn : Int))) w5.drew := n6
      refine wp_region_V (fun wx : World => wx.cell? ⟨P, 6, none⟩ = some (.int .i64 (bn : Int))) 99 12 rfl (by kernel_rfl) ?_
      refine tk 0 47 hS ?_
      refine tk 1 48 hS ?_
      refine tk 2 49 hS ?_
      refine tk 3 50 hS ?_
      refine tk 4 51 hS ?_
      refine tk 5 52 hS ?_
      refine tk 6 53 hS ?_
      refine tk 7 54 hS ?_
      refine tk 8 55 hS ?_
      refine tk 9 56 hS ?_
      refine tkV 10 57 (.pointer (some ⟨P, 7 + s * 2, none⟩)) hS ?_
      refine wpAnyV_one (i := 11) (by kernel_rfl) rfl (fun K hK => ?_)
      go_simp
      refine hK.out _ _ (fun _ => HP6.out.num3.2.2) ?_
      clear hK K
      try simp only [Act.put, sA, s0, sS]
      refine wpAnyV_done (by kernel_rfl) ?_
      refine bodyPost_end (results_none Try.results63 _ _ _) rfl ?_
      exact ⟨rfl, HFIN.out _ (HP6.out.same (Kept.refl _ _).drew), HK6.out.drew⟩
    · have hbc2 : ¬ bot - 148 < (n : Int) := hbc
      go_enter Try.func63, Try.ntmps63
      go_upto_region 1 with fail
      rw [HW1.out]
      generalize hw2 : (w1.setCell ⟨P, 7 + s * 2, none⟩ (.int .i64 0)).setCell ⟨P, 7 + s * 2 + 1, none⟩ (.int .i64 0) = w3 at *
      go_upto_region 6 with fail
      have HP3 := HP2
      have HK3 := HK2
      have HR3 := HR2
      obtain ⟨bt, hbt⟩ : ∃ x, bot = x := ⟨_, rfl⟩
      obtain ⟨slx, hslx⟩ : ∃ x, sl0 sl s = x := ⟨_, rfl⟩
      obtain ⟨body, hbody⟩ : ∃ x, raw = x := ⟨_, rfl⟩
      have HFIN : Hid (∀ wx, SP wx P sum lsn num (bt - (n : Int)) ((slx.set (2 * s) (bt - (n : Int))).set (2 * s + 1) (n : Int)) (layI body (bt - (n : Int)).toNat d) → SetR wx P sum lsn num bot sl raw s true d) := fun wx h => by
        unfold SetR
        rw [if_neg (by simp), HN.out, if_neg hbc, hbt, hslx, hbody]
        exact h
      have hroom : 148 ≤ bt - (n : Int) := by omega
      have hbb : 148 ≤ bt ∧ bt ≤ 4096 := by omega
      rw [hbt] at HP3
      rw [hslx, hbody] at HP3
      clear hbt n4 n5 n6 r0 r1
      obtain ⟨r0, r1⟩ := HR3.out.all2
      obtain ⟨n4, n5, n6⟩ := HP3.out.num3
      have nf := HP3.out.blk.frozen
      obtain ⟨bn, hbn⟩ : ∃ x : Nat, bt - (n : Int) = (x : Int) := ⟨(bt - (n : Int)).toNat, by omega⟩
      have q1 : IntKind.i64.wrap (bt - (n : Int)) = (bn : Int) := by rw [IntKind.wrap_i64, ← hbn]; omega
      have hbn2 : 148 ≤ bn ∧ bn + n ≤ 4096 := by omega
      rw [hbn, Int.toNat_natCast] at HFIN
      have HP4 := hid (HP3.out.setBot (bn : Int))
      have hk34 : Kept (fun b => b = P) w3 (w3.setCell ⟨P, 6, none⟩ (.int .i64 (bn : Int))) := Kept.setCell (R := fun b => b = P) (Kept.refl _ _) (p := ⟨P, 6, none⟩) (.inr rfl) _
      have HK4 := hid (HK3.out.trans hk34)
      have HR4 := hid (HR3.out.kept hk34 (by omega))
      obtain ⟨ab, hab⟩ : ∃ ab : Option Addr, some (if 4096 = bn then (⟨P, 71, none⟩ : Addr) else ⟨P, 71 + bn, none⟩) = ab := ⟨_, rfl⟩
      have HAB := (show Hid (rawB P bn = ab) from hab)
      have g2 : (bn : Int) ≤ 4096 := by omega
      clear hbn hk34
      go_upto_region 7 with fail
      generalize w3.setCell ⟨P, 6, none⟩ (.int .i64 (bn : Int)) = w4 at *
      clear n4 n5 n6 r0 r1 nf
      obtain ⟨n4, n5, n6⟩ := HP4.out.num3
      obtain ⟨r0, r1⟩ := HR4.out.all2
      have hS : (fun wx : World => wx.cell? ⟨P, 6, none⟩ = some (.int .i64 (bn : Int)) ∧ wx.cell? ⟨w.heap.size, 1, none⟩ = some (.slice ta n tc)) w4.drew := ⟨n6, r1⟩
      refine wp_region_V (fun wx : World => wx.cell? ⟨P, 6, none⟩ = some (.int .i64 (bn : Int)) ∧ wx.cell? ⟨w.heap.size, 1, none⟩ = some (.slice ta n tc)) 99 11 rfl (by kernel_rfl) ?_
      refine tk 0 36 hS ?_
      refine tk 1 37 hS ?_
      refine tk 2 38 hS ?_
      refine tk 3 39 hS ?_
      refine tk 4 40 hS ?_
      refine tk 5 41 hS ?_
      refine tk 6 42 hS ?_
      refine tkV 7 43 (.slice ab (4096 - bn) (4096 - bn)) hS ?_
      refine tk 8 44 hS ?_
      refine tk 9 45 hS ?_
      have HV4 := hid ((HNP.out _ HK4.out).same (Kept.refl _ _).drew)
      have hcp := run_copySP 3 Try.underlying22 byte_one (HP4.out.same (Kept.refl _ _).drew) bn (by rw [HN.out]; omega) HV4.out
      rw [HAB.out, HN.out] at hcp
      have HP5 := hid ((HP4.out.same (w' := w4.drew) (Kept.refl _ _).drew).layRaw bn d (by rw [HN.out]; omega))
      refine wpAnyV_one (i := 10) (by kernel_rfl) rfl (fun K hK => ?_)
      go_simp
      have hk45 : Kept (fun b => b = P) w4 (w4.drew.setCells P (71 + bn) (vals .u8 d)) := Kept.setCells (R := fun b => b = P) (.inr rfl) _ _ (Kept.refl _ _).drew
      have HK5 := hid (HK4.out.trans hk45)
      have HR5 := hid (HR4.out.kept hk45 (by omega))
      refine hK.out _ _ (fun _ => ⟨HP5.out.num3.2.2, HR5.out.cell 1⟩) ?_
      clear hK K hcp hk45
      try simp only [Act.put, sA, s0, sS]
      refine wpAnyV_done (by kernel_rfl) ?_
      generalize w4.drew.setCells P (71 + bn) (vals .u8 d) = w5 at HP5 HK5 HR5 ⊢
      clear n4 n5 n6 r0 r1 hS
      obtain ⟨n4, n5, n6⟩ := HP5.out.num3
      have nf := HP5.out.blk.frozen
      have d0 := HP5.out.slAt (2 * s) (by omega)
      have d1 := HP5.out.slAt (2 * s + 1) (by omega)
      rw [show 7 + (2 * s + 1) = 7 + s * 2 + 1 from by omega] at d1
      rw [show 7 + 2 * s = 7 + s * 2 from by omega] at d0
      have HP6 := (show Hid (SP ((w5.setCell ⟨P, 7 + s * 2, none⟩ (.int .i64 (bn : Int))).setCell ⟨P, 7 + s * 2 + 1, none⟩ (.int .i64 (n : Int))) P sum lsn num (bn : Int) ((slx.set (2 * s) (bn : Int)).set (2 * s + 1) (n : Int)) (layI body bn d)) from by
        have h := (HP5.out.slot (2 * s) (by omega) (bn : Int)).slot (2 * s + 1) (by omega) (n : Int)
        rw [show 7 + (2 * s + 1) = 7 + s * 2 + 1 from by omega, show 7 + 2 * s = 7 + s * 2 from by omega] at h
        exact h)
      have hk56 : Kept (fun b => b = P) w5 ((w5.setCell ⟨P, 7 + s * 2, none⟩ (.int .i64 (bn : Int))).setCell ⟨P, 7 + s * 2 + 1, none⟩ (.int .i64 (n : Int))) := Kept.setCell (R := fun b => b = P) (Kept.setCell (R := fun b => b = P) (Kept.refl _ _) (p := ⟨P, 7 + s * 2, none⟩) (.inr rfl) _) (p := ⟨P, 7 + s * 2 + 1, none⟩) (.inr rfl) _
      have HK6 := hid (HK5.out.trans hk56)
      clear hk56
      generalize slx.getD (2 * s) 0 = y0 at d0
      generalize slx.getD (2 * s + 1) 0 = y1 at d1
      go_wp2_with fail
      have hS : (fun wx : World => wx.cell? ⟨P, 6, none⟩ = some (.int .i64 (bn : Int))) w5.drew := n6
      refine wp_region_V (fun wx : World => wx.cell? ⟨P, 6, none⟩ = some (.int .i64 (bn : Int))) 99 12 rfl (by kernel_rfl) ?_
      refine tk 0 47 hS ?_
      refine tk 1 48 hS ?_
      refine tk 2 49 hS ?_
      refine tk 3 50 hS ?_
      refine tk 4 51 hS ?_
      refine tk 5 52 hS ?_
      refine tk 6 53 hS ?_
      refine tk 7 54 hS ?_
      refine tk 8 55 hS ?_
      refine tk 9 56 hS ?_
      refine tkV 10 57 (.pointer (some ⟨P, 7 + s * 2, none⟩)) hS ?_
      refine wpAnyV_one (i := 11) (by kernel_rfl) rfl (fun K hK => ?_)
      go_simp
      refine hK.out _ _ (fun _ => HP6.out.num3.2.2) ?_
      clear hK K
      try simp only [Act.put, sA, s0, sS]
      refine wpAnyV_done (by kernel_rfl) ?_
      refine bodyPost_end (results_none Try.results63 _ _ _) rfl ?_
      exact ⟨rfl, HFIN.out _ (HP6.out.same (Kept.refl _ _).drew), HK6.out.drew⟩
end Go.Proofs.Ytbiagmnkdihmiaa

namespace Go.Proofs.Ytbiagmnkdihmiaa
open Go.RowKit
set_option linter.unusedVariables false
set_option linter.unusedSimpArgs false
theorem set_lsn {raw : List Int} (h : ownOK raw = true) (lsn : Int) : layI raw 4 (lows lsn 8) = encB (raw.take 4) lsn (numAt raw 12 4) (numAt raw 16 2) (slotsOf raw) raw := by
  have hl := ownOK_len h
  conv => lhs; rw [← (own_enc h).1]
  rw [encB_lsn (by rw [List.length_take, hl]; rfl) (slotsOf_length raw)]
theorem set_slot {sum : List Int} {lsn num bot : Int} {sl raw : List Int} (h1 : sum.length = 4) (h2 : sl.length = 64) (s : Nat) (hs : s < 32) (x y : Int) :
    layI (layI (encB sum lsn num bot sl raw) (20 + 4 * s) (lows x 2)) (20 + 4 * s + 2) (lows y 2) = encB sum lsn num bot ((sl.set (2 * s) x).set (2 * s + 1) y) raw := by
  rw [show 20 + 4 * s = 20 + 2 * (2 * s) from by omega, encB_slot h1 h2 (2 * s) x (by omega), show 20 + 2 * (2 * s) + 2 = 20 + 2 * (2 * s + 1) from by omega, encB_slot h1 (by rw [List.length_set]; exact h2) (2 * s + 1) y (by omega)]
theorem set_comp {sum : List Int} {lsn num bot : Int} {sl raw : List Int} (h : EncOK sum lsn num bot sl raw) (hok : SlOK sl) (hw : ownOK (encB sum lsn num bot sl raw) = true) :
    pageCompact (encB sum lsn num bot sl raw) = encB sum lsn num (cBot sl 32) (cSl sl 32) (cBody raw sl 32) := by
  obtain ⟨d1, d2, d3⟩ := h.dec
  unfold pageCompact
  rw [if_pos hw]
  unfold compB
  rw [h.sum4, d1, d2, h.slots, cBody_eq hok _ raw h.behind 32 (Nat.le_refl _)]
theorem set_enc0 {raw : List Int} (hB : IsB raw) (hok : ownOK raw = true) (s : Nat) (lsn : Int) (hL : isLSN lsn = true) :
    EncOK (raw.take 4) lsn (numAt raw 12 4) (numAt raw 16 2) (sl0 (slotsOf raw) s) raw ∧ ownOK (encB (raw.take 4) lsn (numAt raw 12 4) (numAt raw 16 2) (sl0 (slotsOf raw) s) raw) = true := by
  have hl := ownOK_len hok
  obtain ⟨p1, p2, p3, p4⟩ := ownOK_parts hok
  have n12 := numAt_in raw hB 12 4 (by decide) (by decide) (by omega)
  have hsl := slOK_of hB hok
  have hsm := slotsOf_small raw hB hl
  have hE : EncOK (raw.take 4) lsn (numAt raw 12 4) (numAt raw 16 2) (sl0 (slotsOf raw) s) raw := by
    refine ⟨by rw [List.length_take, hl]; rfl, by rw [sl0_length, slotsOf_length], hl, isLSN_spec hL, by omega, by omega, fun x hx => ?_⟩
    unfold sl0 at hx
    rcases List.mem_or_eq_of_mem_set hx with hx | rfl
    · rcases List.mem_or_eq_of_mem_set hx with hx | rfl
      · have := hsm x hx; omega
      · omega
    · omega
  refine ⟨hE, hE.own hL ⟨p1, p2⟩ (SlOK.astray0 (fun k hk => ?_)) (hsl.zero s).share0⟩
  obtain ⟨e1, e2⟩ := sl0_two (slotsOf raw) s k
  rw [e1, e2]
  by_cases e : k = s
  · rw [if_pos e, if_pos e]; simp [astrayAt]
  · rw [if_neg e, if_neg e]
    unfold astray at p3
    rw [List.any_eq_false] at p3
    simpa using p3 k (List.mem_range.2 hk)
theorem set_put {sum : List Int} {lsn num bt : Int} {sl body : List Int} (h1 : sum.length = 4) (h2 : sl.length = 64) (h3 : body.length = 4096) (k : Nat) (hk : k < 32) (d : List Int) (bn : Nat) (hbn : bt - d.length = bn) (hb : 148 ≤ bn) (hd : bn + d.length ≤ 4096) :
    layI (layI (layI (layI (encB sum lsn num bt sl body) bn d) 16 (lows (bn : Int) 2)) (20 + 4 * k) (lows (bn : Int) 2)) (20 + 4 * k + 2) (lows (d.length : Int) 2) = setPut sum lsn num bt sl body k d := by
  rw [encB_body h1 h2 h3 _ _ hb hd, encB_bot h1 h2, set_slot h1 h2 k hk]
  unfold setPut
  rw [hbn, Int.toNat_natCast]
theorem isB_enc {sum : List Int} {lsn num bot : Int} {sl raw : List Int} (h1 : sum.length = 4) (h2 : sl.length = 64) (hs : IsB sum) (hr : IsB raw) : IsB (encB sum lsn num bot sl raw) := by
  rw [encB_eq _ _ _ _ _ _ h1 h2]
  unfold headB slotB
  intro x hx
  simp only [List.mem_append, List.mem_flatMap] at hx
  rcases hx with ((((h | h) | h) | h) | h) | ⟨y, _, h⟩ | h
  · exact hs x h
  · exact lows_isB _ _ x h
  · exact lows_isB _ _ x h
  · exact lows_isB _ _ x h
  · exact lows_isB _ _ x h
  · exact lows_isB _ _ x h
  · exact isB_drop hr _ x h
theorem Rd.keptOld {w0 w w' : World} {v : Value} {d : List Int} {P : Nat} (h0 : Rd .u8 w0 v d) (h : Rd .u8 w v d) (hP : w0.heap.size ≤ P) (hk : Kept (fun b => b = P) w w') : Rd .u8 w' v d := by
  refine ⟨h.1, ?_⟩
  rcases h0.2 with ⟨e, hx⟩ | ⟨b, off, c, rfl, hc, hx⟩
  · exact .inl ⟨e, hx⟩
  · by_cases hd : d.length = 0
    · obtain rfl : d = [] := List.length_eq_zero_iff.1 hd
      exact .inl ⟨rfl, _, _, rfl, fun e => by cases e⟩
    · have hb : b < w0.heap.size := World.block_lt_of_cell? w0 _ (hx 0 (by omega))
      exact (h.kept hk (fun b' e => by have : b = b' := (by simpa [Value.ownBlock] using e); show ¬ b' = P; omega)).2
def SetAns (ty : TypeId) (w w' : World) (e : Ending) (x : Int) (ys : List Int) : Prop := ∃ a c, e = .returned (.agg #[.int .i64 x, .slice a ys.length c]) ∧ (∀ b, (Value.slice a ys.length c).ownBlock = some b → w.heap.size ≤ b) ∧ Own 0 ty .u8 w' (.slice a ys.length c) ys ∧ Same w w'
theorem SetAns.none {ty : TypeId} {w w' : World} (x : Int) (h : Same w w') : SetAns ty w w' (.returned (.agg #[.int .i64 x, .slice none 0 0])) x [] := ⟨_, _, rfl, fun b hb => by simp [Value.ownBlock] at hb, Own.nil _ _ _ _, h⟩
end Go.Proofs.Ytbiagmnkdihmiaa
