/-
  PageNew.
-/
import Derived.Test.YtclmdpmelifplabEncode
import Derived.Test.YtclmdpmelifplabIsPage
namespace Go.Proofs.Ytclmdpmelifplab
open Go.RowKit
set_option linter.unusedVariables false
set_option linter.unusedSimpArgs false

/-- The bytes of an empty page, ahead of its sum. -/
def newB (n : Int) : List Int := List.replicate 12 0 ++ lows n 4 ++ lows 4096 2 ++ List.replicate 4078 0
theorem newB_length (n : Int) : (newB n).length = 4096 := by
  unfold newB
  rw [List.length_append, List.length_append, List.length_append, lows_length, lows_length, List.length_replicate, List.length_replicate]
theorem newB_isB (n : Int) : IsB (newB n) := by
  intro y hy
  simp only [newB, List.mem_append] at hy
  rcases hy with ((h | h) | h) | h
  · have := List.eq_of_mem_replicate h; omega
  · exact lows_isB n 4 y h
  · exact lows_isB 4096 2 y h
  · have := List.eq_of_mem_replicate h; omega
theorem newB_enc (n : Int) : encB (List.replicate 4 0) 0 n 4096 (List.replicate 64 0) (List.replicate 4096 0) = newB n := by
  have e1 : slotB (List.replicate 64 0) = List.replicate 128 0 := by decide +kernel
  have e2 : lows 0 8 = List.replicate 8 0 := by decide
  have e3 : lows 0 2 = List.replicate 2 0 := by decide
  unfold encB headB newB cont
  rw [e1, e2, e3]
  have e4 : ((List.replicate 4 (0 : Int) ++ List.replicate 8 0 ++ lows n 4 ++ lows 4096 2 ++ List.replicate 2 0 ++ List.replicate 128 0).length) = 148 := by simp [lows_length]
  rw [e4, List.drop_replicate]
  simp only [List.append_assoc, List.replicate_append_replicate]
def pageNew (n : Int) : List Int := if n < 0 ∨ 16 ≤ n then [] else sealB (newB n)
theorem pageNew_length (n : Int) : (pageNew n).length ≤ 4096 := by
  unfold pageNew
  split
  · simp
  · rw [sealB_length _ (by rw [newB_length]; decide), newB_length]; exact Nat.le_refl _

set_option maxRecDepth 100000 in
set_option maxHeartbeats 4000000 in
theorem implNew_yes (n : Int) (w : World) (h0 : 0 ≤ n) (h1 : n < 16) :
    Calls Try.prog 14 #[.int .i64 n] w fun e w' => ∃ a c, e = .returned (.slice a (pageNew n).length c) ∧ (∀ b, (Value.slice a (pageNew n).length c).ownBlock = some b → w.heap.size ≤ b) ∧
      Own 0 69 .u8 w' (.slice a (pageNew n).length c) (pageNew n) ∧ Same w w' := by
  have hR : pageNew n = sealB (newB n) := by unfold pageNew; rw [if_neg (by omega)]
  have hsl : (sealB (newB n)).length = 4096 := by rw [sealB_length _ (by rw [newB_length]; decide), newB_length]
  rw [hR, hsl]
  have hzc : Try.zeroCells71.toList = spCells (List.replicate 4 0) 0 0 0 (List.replicate 64 0) (List.replicate 4096 0) := by kernel_rfl
  have hset : (Try.zeroCells71.toList.set 5 (.int .i64 n)).set 6 (.int .i64 4096) = spCells (List.replicate 4 0) 0 n 4096 (List.replicate 64 0) (List.replicate 4096 0) := by
    rw [hzc]
    unfold spCells
    generalize vals .i64 (List.replicate 64 0) ++ vals .u8 (List.replicate 4096 0) = rest
    rfl
  have hlen : (Try.zeroCells71.toList).length = 4167 := by rw [Array.length_toList]; exact Try.zeroCells71_size
  obtain ⟨L, hL⟩ : ∃ L, (Try.zeroCells71.toList.set 5 (.int .i64 n)).set 6 (.int .i64 4096) = L := ⟨_, rfl⟩
  have hLl : L.length = 4167 := by rw [← hL, List.length_set, List.length_set, hlen]
  have hone : ∀ v ∈ L, v.oneCell' = true := by
    rw [← hL, hset]
    intro v hv
    simp only [spCells, List.mem_append, List.mem_cons] at hv
    rcases hv with h | h | h | h | h | h
    · exact vals_one v h
    · rw [h]; rfl
    · rw [h]; rfl
    · rw [h]; rfl
    · exact vals_one v h
    · exact vals_one v h
  have hb0 := Blk.new w Try.zeroCells71 71
  have hst := hb0.stores (P := Try.prog) 0 L (by rw [hLl, hlen]; decide) hone
  have hb1 := hb0.setCells L 0 (by rw [hLl, hlen]; decide)
  rw [lay_all _ _ (by rw [hLl, hlen])] at hb1
  have hk1 : Same w ((w.alloc (.cells Try.zeroCells71 71)).setCells w.heap.size 0 L) := Kept.setCells (.inl (Nat.le_refl _)) L 0 ((Kept.refl _ _).alloc _)
  obtain ⟨w1, hw1⟩ : ∃ w1, (w.alloc (.cells Try.zeroCells71 71)).setCells w.heap.size 0 L = w1 := ⟨_, rfl⟩
  rw [hw1] at hb1 hk1 hst
  have HL := (show Hid (L = spCells (List.replicate 4 0) 0 n 4096 (List.replicate 64 0) (List.replicate 4096 0)) from hL.symm.trans hset)
  have HSP := (show Hid (SP w1 w.heap.size (List.replicate 4 0) 0 n 4096 (List.replicate 64 0) (List.replicate 4096 0)) from ⟨by rw [← HL.out]; exact hb1, rfl, List.length_replicate, List.length_replicate⟩)
  have HN3 := (show Hid (Num3 0 n 4096 (List.replicate 64 0)) from ⟨⟨by decide, by decide⟩, ⟨h0, by omega⟩, ⟨by decide, by decide⟩, fun x hx => by have := List.eq_of_mem_replicate hx; omega⟩)
  have HK1 := (show Hid (Same w w1) from hk1)
  have hE := encode_any w.heap.size _ 0 n 4096 _ _ w1 HSP.out HN3.out
  rw [newB_enc] at hE
  have hPg := isPage_eq n w
  rw [show isPageB n = true from by simp [isPageB]; omega] at hPg
  clear hb0 hb1 hk1 hw1 hset hzc hone
  go_enter Try.func14, Try.ntmps14
  go_wp2_with (first
    | (go_at_call 41; refine hPg.mono ?_; rintro e w' ⟨rfl, hww⟩; obtain rfl := hww.symm)
    | (go_at_call 43; refine hE.mono ?_; rintro e w2 ⟨rfl, hk2⟩; have HK2 := (show Hid (Same w w2) from HK1.out.trans hk2); have hS := sealed_any (newB n) w2 (newB_isB n) (newB_length n); clear hk2)
    | (go_at_call 42; refine hS.mono ?_; rintro e w3 ⟨rfl, hk3⟩; have HK3 := (show Hid (Same w w3) from HK2.out.trans hk3); have hLi := list_any (sealB (newB n)) w3 hsl; clear hk3)
    | (go_at_call 44; refine hLi.mono ?_; rintro e w4 ⟨rfl, hb4, hk4⟩))
  go_ret
  have hz3 := HK3.out.size
  refine ⟨some ⟨w3.heap.size, 0, none⟩, 4096, rfl, ?_, ?_, HK3.out.trans hk4⟩
  · intro b hb
    simp [Value.ownBlock] at hb
    omega
  · have h := Blk.own hb4 (by rw [hsl]; decide)
    rwa [hsl] at h

set_option maxRecDepth 100000 in
theorem implNew_any (n : Int) (w : World) :
    Calls Try.prog 14 #[.int .i64 n] w fun e w' => ∃ a c, e = .returned (.slice a (pageNew n).length c) ∧ (∀ b, (Value.slice a (pageNew n).length c).ownBlock = some b → w.heap.size ≤ b) ∧
      Own 0 69 .u8 w' (.slice a (pageNew n).length c) (pageNew n) ∧ Same w w' := by
  by_cases h : n < 0 ∨ 16 ≤ n
  · have hR : pageNew n = [] := by unfold pageNew; rw [if_pos h]
    rw [hR]
    have hPg := isPage_eq n w
    rw [show isPageB n = false from by simp [isPageB]; omega] at hPg
    go_enter Try.func14, Try.ntmps14
    go_wp2_with (go_at_call 41; refine hPg.mono ?_; rintro e w' ⟨rfl, hww⟩; obtain rfl := hww.symm)
    go_ret
    exact ⟨none, 0, rfl, fun b hb => by simp [Value.ownBlock] at hb, Own.nil _ _ _ _, Kept.refl _ _⟩
  · exact implNew_yes n w (by omega) (by omega)

theorem cont_zeros (k n : Nat) (h : k ≤ n) : cont (List.replicate k 0) (List.replicate n 0) = List.replicate n 0 := by
  unfold cont
  rw [List.length_replicate, List.drop_replicate, List.replicate_append_replicate]
  congr 1
  omega
theorem newB_cont (n : Int) : cont (List.replicate 12 0 ++ lows n 4 ++ lows 4096 2) (List.replicate 4096 0) = newB n := by
  unfold cont newB
  have e : (List.replicate 12 (0 : Int) ++ lows n 4 ++ lows 4096 2).length = 18 := by simp [lows_length]
  rw [e, List.drop_replicate]
theorem numB_small (x n : Int) (hn : 1 ≤ n) (hn8 : n ≤ 8) (h0 : 0 ≤ x) (h1 : x / 256 ^ n.toNat = 0) : numB x n = lows x n.toNat := by
  unfold numB
  rw [if_neg (by omega)]
/-- Cells that are owned, as a copy wants them. -/
theorem own_cells {base g n c : Nat} {e : TypeId} {w : World} {bs : List Int} (h : Own base e .u8 w (.slice (some ⟨g, 0, none⟩) n c) bs) (hn : n = bs.length) (j : Nat) (u : Value) (hu : (vals .u8 bs)[j]? = some u) : w.cell? ((⟨g, 0, none⟩ : Addr).add j) = some u := by
  have hj : j < bs.length := by have := (List.getElem?_eq_some_iff.1 hu).1; rwa [vals_length] at this
  rw [addr_add, Nat.zero_add, h.cell hn j (by omega), ← hu, vals_at _ _ _ hj]
theorem own_some {base n c : Nat} {a : Option Addr} {e : TypeId} {w : World} {bs : List Int} (h : Own base e .u8 w (.slice a n c) bs) (hn : 0 < bs.length) : ∃ g, a = some ⟨g, 0, none⟩ := by
  rcases h.form with ⟨_, h0⟩ | ⟨g, cap, e, _⟩
  · rw [h0] at hn
    simp at hn
  · cases e
    exact ⟨g, rfl⟩

set_option maxRecDepth 100000 in
set_option maxHeartbeats 8000000 in
theorem specNew_yes (n : Int) (w : World) (h0 : 0 ≤ n) (h1 : n < 16) :
    Calls Try.prog 13 #[.int .i64 n] w fun e w' => ∃ a c, e = .returned (.slice a (pageNew n).length c) ∧ (∀ b, (Value.slice a (pageNew n).length c).ownBlock = some b → w.heap.size ≤ b) ∧
      Own 0 5 .u8 w' (.slice a (pageNew n).length c) (pageNew n) ∧ Same w w' := by
  have hR : pageNew n = pageSeal (newB n) := by unfold pageNew pageSeal; rw [if_neg (by omega), if_pos (newB_length n)]
  rw [hR]
  clear hR
  obtain ⟨i0, hi, hz0, hz1, hz2⟩ := info_parts Try.infoByte'
  have HN1 := (show Hid (numB n 4 = lows n 4) from numB_small n 4 (by decide) (by decide) h0 (by rw [show (256 : Int) ^ (4 : Int).toNat = 4294967296 from rfl]; omega))
  have HN2 := (show Hid (numB 4096 2 = lows 4096 2) from (by decide : numB 4096 2 = lows 4096 2))
  go_enter Try.func13, Try.ntmps13
  go_wp2_with (at_make; refine wpList_make_full _ rfl _ _ 22 rfl 0 5 i0 (.int .u8 0) 1 Try.underlying22 hi hz0 hz1 .i64 .i64 _ _ 4096 rfl rfl (by first | rfl | simp) (by first | rfl | simp) (by rw [hz2]; decide) (by decide) (Nat.zero_le _) ?_; intro w1 hown1 hgrow1; have HB1 := (show Hid (Blk w1 w.heap.size 5 (vals .u8 (cont (List.replicate 12 0) (List.replicate 4096 0)))) from (by rw [cont_zeros 12 4096 (by decide)]; exact Own.blk (own_made (by simpa using hown1)))); have HK1 := (show Hid (Same w w1) from Kept.of_grown hgrow1 (fun k e => by cases e)); clear hown1 hgrow1)
  have hw1 := HB1.out.lt
  have hS : (fun _ : World => True) w1.drew := by trivial
  refine wp_region_V (fun _ : World => True) 99 5 rfl (by kernel_rfl) ?_
  refine wpAnyV_take (i := 0) (v := ?vq1) (some 12) rfl rfl (by kernel_rfl) (by kernel_rfl) (by kernel_rfl) (by kernel_rfl) (fun _ _ _ h => h) (Or.inl ⟨by rfl, ?hyq1⟩) hS ?_
  case hyq1 => (intro w hSw; (try dsimp only at hSw); go_simp; (try with_reducible rfl))
  try simp only [Act.put, List.setIfInBounds_toArray, List.set_cons_zero, List.set_cons_succ]
  refine wpAnyV_take (i := 1) (v := ?vq2) (some 13) rfl rfl (by kernel_rfl) (by kernel_rfl) (by kernel_rfl) (by kernel_rfl) (fun _ _ _ h => h) (Or.inl ⟨by rfl, ?hyq2⟩) hS ?_
  case hyq2 => (intro w hSw; (try dsimp only at hSw); go_simp; (try with_reducible rfl))
  try simp only [Act.put, List.setIfInBounds_toArray, List.set_cons_zero, List.set_cons_succ]
  refine wpAnyV_take (i := 2) (v := ?vq3) (some 14) rfl rfl (by kernel_rfl) (by kernel_rfl) (by kernel_rfl) (by kernel_rfl) (fun _ _ _ h => h) (Or.inl ⟨by rfl, ?hyq3⟩) hS ?_
  case hyq3 => (intro w hSw; (try dsimp only at hSw); go_simp; (try with_reducible rfl))
  try simp only [Act.put, List.setIfInBounds_toArray, List.set_cons_zero, List.set_cons_succ]
  refine wpAnyV_one (i := 3) (by kernel_rfl) rfl (fun K hK => ?_)
  go_simp
  have hc := specPut_any n 4 w1.drew ⟨by omega, by omega⟩ ⟨by decide, by decide⟩
  with_reducible refine hc.mono ?_
  clear hc
  rintro e w2 ⟨a2, c2, rfl, hf2, ho2, hk2⟩
  rw [HN1.out, lows_length] at hf2 ho2 ⊢
  obtain ⟨g2, rfl⟩ := own_some ho2 (by rw [lows_length]; decide)
  have hg2 := hf2 g2 rfl
  have HO2 := (show Hid (Own 0 5 .u8 w2 (.slice (some ⟨g2, 0, none⟩) 4 c2) (lows n 4)) from ho2)
  have hk2' : Same w1 w2 := (Kept.refl _ _).drew.trans hk2
  have HB2 := (show Hid (Blk w2 w.heap.size 5 (vals .u8 (cont (List.replicate 12 0) (List.replicate 4096 0)))) from HB1.out.same hk2')
  have HK2 := (show Hid (Same w w2) from HK1.out.trans hk2')
  clear hf2 ho2 hk2 hk2'
  refine hK.out _ _ (fun _ => trivial) ?_
  clear hK K
  try simp only [Act.put, List.setIfInBounds_toArray, List.set_cons_zero, List.set_cons_succ]
  refine wpAnyV_one (i := 4) (by kernel_rfl) rfl (fun K hK => ?_)
  refine step_copy_blk (by rfl) _ _ 22 (by rfl) Try.underlying22 byte_size (vals .u8 (lows n 4)) HB2.out (by rfl) (by rfl) (by rw [vals_length, lows_length]; decide) (own_cells HO2.out (by rw [lows_length])) (by rw [vals_length, vals_length, lows_length, cont_length _ _ (by rw [List.length_replicate, List.length_replicate]; decide), List.length_replicate]; decide) vals_one ?_
  have hb3 := Blk.more 12 (lows n 4) (HB2.out.setCells (vals .u8 (lows n 4)) 12 (by rw [vals_length, vals_length, lows_length, cont_length _ _ (by rw [List.length_replicate, List.length_replicate]; decide), List.length_replicate]; decide)) (by rw [List.length_replicate]) (by rw [List.length_replicate, List.length_replicate, lows_length]; decide)
  have hk3 := Kept.setCells (R := fun _ => False) (a := w) (B := w.heap.size) (.inl (Nat.le_refl _)) (vals .u8 (lows n 4)) 12 HK2.out
  obtain ⟨w3, hw3⟩ : ∃ w3, w2.setCells w.heap.size 12 (vals .u8 (lows n 4)) = w3 := ⟨_, rfl⟩
  rw [hw3] at hb3 hk3 ⊢
  have HB3 := (show Hid (Blk w3 w.heap.size 5 (vals .u8 (cont (List.replicate 12 0 ++ lows n 4) (List.replicate 4096 0)))) from hb3)
  have HK3 := (show Hid (Same w w3) from hk3)
  clear hw3 hb3 hk3 HB2 HK2 HB1 HK1 HO2
  show K (Act.put _ (some 16) (goInt (vals .u8 (lows n 4)).length)) _
  refine hK.out _ _ (fun _ => trivial) ?_
  clear hK K hS
  refine wpAnyV_done (by kernel_rfl) ?_
  try simp only [Act.put, List.setIfInBounds_toArray, List.set_cons_zero, List.set_cons_succ]
  go_wp2_with fail
  have hS : (fun _ : World => True) w3.drew := by trivial
  refine wp_region_V (fun _ : World => True) 99 4 rfl (by kernel_rfl) ?_
  refine wpAnyV_take (i := 0) (v := ?vq4) (some 17) rfl rfl (by kernel_rfl) (by kernel_rfl) (by kernel_rfl) (by kernel_rfl) (fun _ _ _ h => h) (Or.inl ⟨by rfl, ?hyq4⟩) hS ?_
  case hyq4 => (intro w hSw; (try dsimp only at hSw); go_simp; (try with_reducible rfl))
  try simp only [Act.put, List.setIfInBounds_toArray, List.set_cons_zero, List.set_cons_succ]
  refine wpAnyV_take (i := 1) (v := ?vq5) (some 18) rfl rfl (by kernel_rfl) (by kernel_rfl) (by kernel_rfl) (by kernel_rfl) (fun _ _ _ h => h) (Or.inl ⟨by rfl, ?hyq5⟩) hS ?_
  case hyq5 => (intro w hSw; (try dsimp only at hSw); go_simp; (try with_reducible rfl))
  try simp only [Act.put, List.setIfInBounds_toArray, List.set_cons_zero, List.set_cons_succ]
  refine wpAnyV_one (i := 2) (by kernel_rfl) rfl (fun K hK => ?_)
  go_simp
  have hc := specPut_any 4096 2 w3.drew ⟨by decide, by decide⟩ ⟨by decide, by decide⟩
  with_reducible refine hc.mono ?_
  clear hc
  rintro e w4 ⟨a4, c4, rfl, hf4, ho4, hk4⟩
  rw [HN2.out, lows_length] at hf4 ho4 ⊢
  obtain ⟨g4, rfl⟩ := own_some ho4 (by rw [lows_length]; decide)
  have HO4 := (show Hid (Own 0 5 .u8 w4 (.slice (some ⟨g4, 0, none⟩) 2 c4) (lows 4096 2)) from ho4)
  have hk4' : Same w3 w4 := (Kept.refl _ _).drew.trans hk4
  have HB4 := (show Hid (Blk w4 w.heap.size 5 (vals .u8 (cont (List.replicate 12 0 ++ lows n 4) (List.replicate 4096 0)))) from HB3.out.same hk4')
  have HK4 := (show Hid (Same w w4) from HK3.out.trans hk4')
  clear hf4 ho4 hk4 hk4'
  refine hK.out _ _ (fun _ => trivial) ?_
  clear hK K
  try simp only [Act.put, List.setIfInBounds_toArray, List.set_cons_zero, List.set_cons_succ]
  refine wpAnyV_one (i := 3) (by kernel_rfl) rfl (fun K hK => ?_)
  have hl16 : (List.replicate 12 (0 : Int) ++ lows n 4).length = 16 := by rw [List.length_append, List.length_replicate, lows_length]
  have hcl : (cont (List.replicate 12 0 ++ lows n 4) (List.replicate 4096 0)).length = 4096 := by rw [cont_length _ _ (by rw [hl16, List.length_replicate]; decide), List.length_replicate]
  refine step_copy_blk (by rfl) _ _ 22 (by rfl) Try.underlying22 byte_size (vals .u8 (lows 4096 2)) HB4.out (by rfl) (by rfl) (by rw [vals_length, lows_length]; decide) (own_cells HO4.out (by rw [lows_length])) (by rw [vals_length, vals_length, lows_length, hcl]; decide) vals_one ?_
  have hb5 := Blk.more 16 (lows 4096 2) (HB4.out.setCells (vals .u8 (lows 4096 2)) 16 (by rw [vals_length, vals_length, lows_length, hcl]; decide)) hl16.symm (by rw [hl16, List.length_replicate, lows_length]; decide)
  rw [newB_cont] at hb5
  have hk5 := Kept.setCells (R := fun _ => False) (a := w) (B := w.heap.size) (.inl (Nat.le_refl _)) (vals .u8 (lows 4096 2)) 16 HK4.out
  obtain ⟨w5, hw5⟩ : ∃ w5, w4.setCells w.heap.size 16 (vals .u8 (lows 4096 2)) = w5 := ⟨_, rfl⟩
  rw [hw5] at hb5 hk5 ⊢
  have hO5 := Blk.own hb5 (by rw [newB_length]; decide)
  rw [newB_length] at hO5
  have HK5 := (show Hid (Same w w5) from hk5)
  have hSe := specSeal_any (.slice (some ⟨w.heap.size, 0, none⟩) 4096 4096) (newB n) w5 (newB_isB n) (by rw [newB_length]; decide) hO5.rd
  clear hw5 hb5 hk5 HB4 HK4 HO4 HB3 HK3 hO5
  show K (Act.put _ (some 20) (goInt (vals .u8 (lows 4096 2)).length)) _
  refine hK.out _ _ (fun _ => trivial) ?_
  clear hK K hS
  refine wpAnyV_done (by kernel_rfl) ?_
  try simp only [Act.put, List.setIfInBounds_toArray, List.set_cons_zero, List.set_cons_succ]
  go_wp2_with fail
  with_reducible refine hSe.mono ?_
  rintro e w6 ⟨a6, c6, rfl, hf6, ho6, hk6⟩
  have hz5 := HK5.out.size
  go_wp2
  go_ret
  exact ⟨a6, c6, rfl, fun b hb => Nat.le_trans hz5 (hf6 b hb), ho6, HK5.out.trans hk6⟩
set_option maxRecDepth 100000 in
theorem specNew_any (n : Int) (w : World) :
    Calls Try.prog 13 #[.int .i64 n] w fun e w' => ∃ a c, e = .returned (.slice a (pageNew n).length c) ∧ (∀ b, (Value.slice a (pageNew n).length c).ownBlock = some b → w.heap.size ≤ b) ∧
      Own 0 5 .u8 w' (.slice a (pageNew n).length c) (pageNew n) ∧ Same w w' := by
  by_cases h : n < 0 ∨ 16 ≤ n
  · have hR : pageNew n = [] := by unfold pageNew; rw [if_pos h]
    rw [hR]
    rcases h with h | h <;>
    ( go_enter Try.func13, Try.ntmps13
      go_wp2
      go_ret
      exact ⟨some ⟨w.heap.size, 0, none⟩, 0, rfl, fun b hb => by simp [Value.ownBlock] at hb; omega, Own.empty _ _, (Kept.refl _ _).alloc _⟩)
  · exact specNew_yes n w (by omega) (by omega)
end Go.Proofs.Ytclmdpmelifplab
