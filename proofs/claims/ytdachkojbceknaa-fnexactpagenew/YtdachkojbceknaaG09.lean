import Derived.Test.YtdachkojbceknaaG00
import Derived.Test.YtdachkojbceknaaG03
import Derived.Deep.DeepCutAuto
namespace Go.Proofs.Ytdachkojbceknaa
open Go.RowKit
set_option linter.unusedVariables false
set_option linter.unusedSimpArgs false
def isPageB (x : Int) : Bool := decide (0 ≤ x) && decide (x < 16)
set_option maxRecDepth 100000 in
theorem isPage_eq (x : Int) (w : World) : Calls Try.prog 64 #[.int .i64 x] w fun e w' => e = .returned (.bool (isPageB x)) ∧ w' = w := by
  unfold isPageB
  by_cases h : 0 ≤ x
  · by_cases h2 : x < 16
    · go_enter Try.func64, Try.ntmps64
      go_wp2
      go_ret
      exact ⟨by simp [h, h2], rfl⟩
    · go_enter Try.func64, Try.ntmps64
      go_wp2
      go_ret
      exact ⟨by simp [h]; omega, rfl⟩
  · go_enter Try.func64, Try.ntmps64
    go_wp2
    go_ret
    exact ⟨by rw [show decide (0 ≤ x) = false from by simp; omega]; rfl, rfl⟩
end Go.Proofs.Ytdachkojbceknaa

namespace Go.Proofs.Ytdachkojbceknaa
set_option maxRecDepth 100000
set_option maxHeartbeats 8000000
open Go.RowKit
set_option linter.unusedVariables false
set_option linter.unusedSimpArgs false
def newB (n : Int) : List Int := List.replicate 12 0 ++ lows n 4 ++ lows 4096 2 ++ List.replicate 4078 0
theorem newB_length (n : Int) : (newB n).length = 4096 := by
  unfold newB
  rw [List.length_append, List.length_append, List.length_append, lows_length, lows_length, List.length_replicate, List.length_replicate]
theorem newB_isB (n : Int) : IsB (newB n) := by
  intro y hy
  simp only [newB, List.mem_append] at hy
  rcases hy with ((h | h) | h) | h
  · have := List.eq_of_mem_replicate h; omega
  · exact lows_isB n 4 y h
  · exact lows_isB 4096 2 y h
  · have := List.eq_of_mem_replicate h; omega
theorem newB_enc (n : Int) : encB (List.replicate 4 0) 0 n 4096 (List.replicate 64 0) (List.replicate 4096 0) = newB n := by
  have e1 : slotB (List.replicate 64 0) = List.replicate 128 0 := by decide +kernel
  have e2 : lows 0 8 = List.replicate 8 0 := by decide
  have e3 : lows 0 2 = List.replicate 2 0 := by decide
  unfold encB headB newB cont
  rw [e1, e2, e3]
  have e4 : ((List.replicate 4 (0 : Int) ++ List.replicate 8 0 ++ lows n 4 ++ lows 4096 2 ++ List.replicate 2 0 ++ List.replicate 128 0).length) = 148 := by simp [lows_length]
  rw [e4, List.drop_replicate]
  simp only [List.append_assoc, List.replicate_append_replicate]
def pageNew (n : Int) : List Int := if n < 0 ∨ 16 ≤ n then [] else sealB (newB n)
theorem pageNew_length (n : Int) : (pageNew n).length ≤ 4096 := by
  unfold pageNew
  split
  · simp
  · rw [sealB_length _ (by rw [newB_length]; decide), newB_length]; exact Nat.le_refl _
theorem implNew_yes (n : Int) (w : World) (h0 : 0 ≤ n) (h1 : n < 16) :
    Calls Try.prog 34 #[.int .i64 n] w fun e w' => ∃ a c, e = .returned (.slice a (pageNew n).length c) ∧ (∀ b, (Value.slice a (pageNew n).length c).ownBlock = some b → w.heap.size ≤ b) ∧
      Own 0 58 .u8 w' (.slice a (pageNew n).length c) (pageNew n) ∧ Same w w' := by
  have hR : pageNew n = sealB (newB n) := by unfold pageNew; rw [if_neg (by omega)]
  have hsl : (sealB (newB n)).length = 4096 := by rw [sealB_length _ (by rw [newB_length]; decide), newB_length]
  rw [hR, hsl]
  have hzc : Try.zeroCells73.toList = spCells (List.replicate 4 0) 0 0 0 (List.replicate 64 0) (List.replicate 4096 0) := by kernel_rfl
  have hset : (Try.zeroCells73.toList.set 5 (.int .i64 n)).set 6 (.int .i64 4096) = spCells (List.replicate 4 0) 0 n 4096 (List.replicate 64 0) (List.replicate 4096 0) := by
    rw [hzc]
    unfold spCells
    generalize vals .i64 (List.replicate 64 0) ++ vals .u8 (List.replicate 4096 0) = rest
    rfl
  have hlen : (Try.zeroCells73.toList).length = 4167 := by rw [Array.length_toList]; exact Try.zeroCells73_size
  obtain ⟨L, hL⟩ : ∃ L, (Try.zeroCells73.toList.set 5 (.int .i64 n)).set 6 (.int .i64 4096) = L := ⟨_, rfl⟩
  have hLl : L.length = 4167 := by rw [← hL, List.length_set, List.length_set, hlen]
  have hone : ∀ v ∈ L, v.oneCell' = true := by
    rw [← hL, hset]
    intro v hv
    simp only [spCells, List.mem_append, List.mem_cons] at hv
    rcases hv with h | h | h | h | h | h
    · exact vals_one v h
    · rw [h]; rfl
    · rw [h]; rfl
    · rw [h]; rfl
    · exact vals_one v h
    · exact vals_one v h
  have hb0 := Blk.new w Try.zeroCells73 73
  have hst := hb0.stores (P := Try.prog) 0 L (by rw [hLl, hlen]; decide) hone
  have hb1 := hb0.setCells L 0 (by rw [hLl, hlen]; decide)
  rw [lay_all _ _ (by rw [hLl, hlen])] at hb1
  have hk1 : Same w ((w.alloc (.cells Try.zeroCells73 73)).setCells w.heap.size 0 L) := Kept.setCells (.inl (Nat.le_refl _)) L 0 ((Kept.refl _ _).alloc _)
  obtain ⟨w1, hw1⟩ : ∃ w1, (w.alloc (.cells Try.zeroCells73 73)).setCells w.heap.size 0 L = w1 := ⟨_, rfl⟩
  rw [hw1] at hb1 hk1 hst
  have HL := (show Hid (L = spCells (List.replicate 4 0) 0 n 4096 (List.replicate 64 0) (List.replicate 4096 0)) from hL.symm.trans hset)
  have HSP := (show Hid (SP w1 w.heap.size (List.replicate 4 0) 0 n 4096 (List.replicate 64 0) (List.replicate 4096 0)) from ⟨by rw [← HL.out]; exact hb1, rfl, List.length_replicate, List.length_replicate⟩)
  have HN3 := (show Hid (Num3 0 n 4096 (List.replicate 64 0)) from ⟨⟨by decide, by decide⟩, ⟨h0, by omega⟩, ⟨by decide, by decide⟩, fun x hx => by have := List.eq_of_mem_replicate hx; omega⟩)
  have HK1 := (show Hid (Same w w1) from hk1)
  have hE := encode_any w.heap.size _ 0 n 4096 _ _ w1 HSP.out HN3.out
  rw [newB_enc] at hE
  have hPg := isPage_eq n w
  rw [show isPageB n = true from by simp [isPageB]; omega] at hPg
  clear hb0 hb1 hk1 hw1 hset hzc hone
  go_enter Try.func34, Try.ntmps34
  go_wp2_with (first
    | (go_at_call 64; refine hPg.mono ?_; rintro e w' ⟨rfl, hww⟩; obtain rfl := hww.symm)
    | (go_at_call 45; refine hE.mono ?_; rintro e w2 ⟨rfl, hk2⟩; have HK2 := (show Hid (Same w w2) from HK1.out.trans hk2); have hS := sealed_any (newB n) w2 (newB_isB n) (newB_length n); clear hk2)
    | (go_at_call 57; refine hS.mono ?_; rintro e w3 ⟨rfl, hk3⟩; have HK3 := (show Hid (Same w w3) from HK2.out.trans hk3); have hLi := list_any (sealB (newB n)) w3 hsl; clear hk3)
    | (go_at_call 46; refine hLi.mono ?_; rintro e w4 ⟨rfl, hb4, hk4⟩))
  go_ret
  have hz3 := HK3.out.size
  refine ⟨some ⟨w3.heap.size, 0, none⟩, 4096, rfl, ?_, ?_, HK3.out.trans hk4⟩
  · intro b hb
    simp [Value.ownBlock] at hb
    omega
  · have h := Blk.own hb4 (by rw [hsl]; decide)
    rwa [hsl] at h
theorem implNew_any (n : Int) (w : World) :
    Calls Try.prog 34 #[.int .i64 n] w fun e w' => ∃ a c, e = .returned (.slice a (pageNew n).length c) ∧ (∀ b, (Value.slice a (pageNew n).length c).ownBlock = some b → w.heap.size ≤ b) ∧
      Own 0 58 .u8 w' (.slice a (pageNew n).length c) (pageNew n) ∧ Same w w' := by
  by_cases h : n < 0 ∨ 16 ≤ n
  · have hR : pageNew n = [] := by unfold pageNew; rw [if_pos h]
    rw [hR]
    have hPg := isPage_eq n w
    rw [show isPageB n = false from by simp [isPageB]; omega] at hPg
    go_enter Try.func34, Try.ntmps34
    go_wp2_with (go_at_call 64; refine hPg.mono ?_; rintro e w' ⟨rfl, hww⟩; obtain rfl := hww.symm)
    go_ret
    exact ⟨none, 0, rfl, fun b hb => by simp [Value.ownBlock] at hb, Own.nil _ _ _ _, Kept.refl _ _⟩
  · exact implNew_yes n w (by omega) (by omega)
theorem cont_zeros (k n : Nat) (h : k ≤ n) : cont (List.replicate k 0) (List.replicate n 0) = List.replicate n 0 := by
  unfold cont
  rw [List.length_replicate, List.drop_replicate, List.replicate_append_replicate]
  congr 1
  omega
theorem newB_cont (n : Int) : cont (List.replicate 12 0 ++ lows n 4 ++ lows 4096 2) (List.replicate 4096 0) = newB n := by
  unfold cont newB
  have e : (List.replicate 12 (0 : Int) ++ lows n 4 ++ lows 4096 2).length = 18 := by simp [lows_length]
  rw [e, List.drop_replicate]
theorem numB_small (x n : Int) (hn : 1 ≤ n) (hn8 : n ≤ 8) (h0 : 0 ≤ x) (h1 : x / 256 ^ n.toNat = 0) : numB x n = lows x n.toNat := by
  unfold numB
  rw [if_neg (by omega)]
theorem own_cells {base g n c : Nat} {e : TypeId} {w : World} {bs : List Int} (h : Own base e .u8 w (.slice (some ⟨g, 0, none⟩) n c) bs) (hn : n = bs.length) (j : Nat) (u : Value) (hu : (vals .u8 bs)[j]? = some u) : w.cell? ((⟨g, 0, none⟩ : Addr).add j) = some u := by
  have hj : j < bs.length := by have := (List.getElem?_eq_some_iff.1 hu).1; rwa [vals_length] at this
  rw [addr_add, Nat.zero_add, h.cell hn j (by omega), ← hu, vals_at _ _ _ hj]
theorem own_some {base n c : Nat} {a : Option Addr} {e : TypeId} {w : World} {bs : List Int} (h : Own base e .u8 w (.slice a n c) bs) (hn : 0 < bs.length) : ∃ g, a = some ⟨g, 0, none⟩ := by
  rcases h.form with ⟨_, h0⟩ | ⟨g, cap, e, _⟩
  · rw [h0] at hn
    simp at hn
  · cases e
    exact ⟨g, rfl⟩
theorem specNew_yes (n : Int) (w : World) (h0 : 0 ≤ n) (h1 : n < 16) :
    Calls Try.prog 33 #[.int .i64 n] w fun e w' => ∃ a c, e = .returned (.slice a (pageNew n).length c) ∧ (∀ b, (Value.slice a (pageNew n).length c).ownBlock = some b → w.heap.size ≤ b) ∧
      Own 0 5 .u8 w' (.slice a (pageNew n).length c) (pageNew n) ∧ Same w w' := by
  have hR : pageNew n = pageSeal (newB n) := by unfold pageNew pageSeal; rw [if_neg (by omega), if_pos (newB_length n)]
  rw [hR]
  clear hR
  obtain ⟨i0, hi, hz0, hz1, hz2⟩ := info_parts Try.infoByte'
  have HN1 := (show Hid (numB n 4 = lows n 4) from numB_small n 4 (by decide) (by decide) h0 (by rw [show (256 : Int) ^ (4 : Int).toNat = 4294967296 from rfl]; omega))
  have HN2 := (show Hid (numB 4096 2 = lows 4096 2) from (by decide : numB 4096 2 = lows 4096 2))
  go_enter Try.func33, Try.ntmps33
  go_wp2_with (at_make; refine wpList_make_full _ rfl _ _ 22 rfl 0 5 i0 (.int .u8 0) 1 Try.underlying22 hi hz0 hz1 .i64 .i64 _ _ 4096 rfl rfl (by first | rfl | simp) (by first | rfl | simp) (by rw [hz2]; decide) (by decide) (Nat.zero_le _) ?_; intro w1 hown1 hgrow1; have HB1 := (show Hid (Blk w1 w.heap.size 5 (vals .u8 (cont (List.replicate 12 0) (List.replicate 4096 0)))) from (by rw [cont_zeros 12 4096 (by decide)]; exact Own.blk (own_made (by simpa using hown1)))); have HK1 := (show Hid (Same w w1) from Kept.of_grown hgrow1 (fun k e => by cases e)); clear hown1 hgrow1)
  have hw1 := HB1.out.lt
  have hS : (fun _ : World => True) w1.drew := by trivial
  refine wp_region_V (fun _ : World => True) 99 5 rfl (by kernel_rfl) ?_
  refine tk 0 12 hS ?_
  refine tk 1 13 hS ?_
  refine tk 2 14 hS ?_
  refine wpAnyV_one (i := 3) (by kernel_rfl) rfl (fun K hK => ?_)
  go_simp
  have hc := specPut_any n 4 w1.drew ⟨by omega, by omega⟩ ⟨by decide, by decide⟩
  with_reducible refine hc.mono ?_
  clear hc
  rintro e w2 ⟨a2, c2, rfl, hf2, ho2, hk2⟩
  rw [HN1.out, lows_length] at hf2 ho2 ⊢
  obtain ⟨g2, rfl⟩ := own_some ho2 (by rw [lows_length]; decide)
  have hg2 := hf2 g2 rfl
  have HO2 := (show Hid (Own 0 5 .u8 w2 (.slice (some ⟨g2, 0, none⟩) 4 c2) (lows n 4)) from ho2)
  have hk2' : Same w1 w2 := (Kept.refl _ _).drew.trans hk2
  have HB2 := hid (HB1.out.same hk2')
  have HK2 := (show Hid (Same w w2) from HK1.out.trans hk2')
  clear hf2 ho2 hk2 hk2'
  refine hK.out _ _ (fun _ => trivial) ?_
  clear hK K
  try simp only [Act.put, sA, s0, sS]
  refine wpAnyV_one (i := 4) (by kernel_rfl) rfl (fun K hK => ?_)
  refine step_copy_blk (by rfl) _ _ 22 (by rfl) Try.underlying22 byte_size (vals .u8 (lows n 4)) HB2.out (by rfl) (by rfl) (by rw [vals_length, lows_length]; decide) (own_cells HO2.out (by rw [lows_length])) (by rw [vals_length, vals_length, lows_length, cont_length _ _ (by rw [List.length_replicate, List.length_replicate]; decide), List.length_replicate]; decide) vals_one ?_
  have hb3 := Blk.more 12 (lows n 4) (HB2.out.setCells (vals .u8 (lows n 4)) 12 (by rw [vals_length, vals_length, lows_length, cont_length _ _ (by rw [List.length_replicate, List.length_replicate]; decide), List.length_replicate]; decide)) (by rw [List.length_replicate]) (by rw [List.length_replicate, List.length_replicate, lows_length]; decide)
  have hk3 := Kept.setCells (R := fun _ => False) (a := w) (B := w.heap.size) (.inl (Nat.le_refl _)) (vals .u8 (lows n 4)) 12 HK2.out
  obtain ⟨w3, hw3⟩ : ∃ w3, w2.setCells w.heap.size 12 (vals .u8 (lows n 4)) = w3 := ⟨_, rfl⟩
  rw [hw3] at hb3 hk3 ⊢
  have HB3 := (show Hid (Blk w3 w.heap.size 5 (vals .u8 (cont (List.replicate 12 0 ++ lows n 4) (List.replicate 4096 0)))) from hb3)
  have HK3 := (show Hid (Same w w3) from hk3)
  clear hw3 hb3 hk3 HB2 HK2 HB1 HK1 HO2
  show K (Act.put _ (some 16) (goInt (vals .u8 (lows n 4)).length)) _
  refine hK.out _ _ (fun _ => trivial) ?_
  clear hK K hS
  refine wpAnyV_done (by kernel_rfl) ?_
  try simp only [Act.put, sA, s0, sS]
  go_wp2_with fail
  have hS : (fun _ : World => True) w3.drew := by trivial
  refine wp_region_V (fun _ : World => True) 99 4 rfl (by kernel_rfl) ?_
  refine tk 0 17 hS ?_
  refine tk 1 18 hS ?_
  refine wpAnyV_one (i := 2) (by kernel_rfl) rfl (fun K hK => ?_)
  go_simp
  have hc := specPut_any 4096 2 w3.drew ⟨by decide, by decide⟩ ⟨by decide, by decide⟩
  with_reducible refine hc.mono ?_
  clear hc
  rintro e w4 ⟨a4, c4, rfl, hf4, ho4, hk4⟩
  rw [HN2.out, lows_length] at hf4 ho4 ⊢
  obtain ⟨g4, rfl⟩ := own_some ho4 (by rw [lows_length]; decide)
  have HO4 := (show Hid (Own 0 5 .u8 w4 (.slice (some ⟨g4, 0, none⟩) 2 c4) (lows 4096 2)) from ho4)
  have hk4' : Same w3 w4 := (Kept.refl _ _).drew.trans hk4
  have HB4 := hid (HB3.out.same hk4')
  have HK4 := (show Hid (Same w w4) from HK3.out.trans hk4')
  clear hf4 ho4 hk4 hk4'
  refine hK.out _ _ (fun _ => trivial) ?_
  clear hK K
  try simp only [Act.put, sA, s0, sS]
  refine wpAnyV_one (i := 3) (by kernel_rfl) rfl (fun K hK => ?_)
  have hl16 : (List.replicate 12 (0 : Int) ++ lows n 4).length = 16 := by rw [List.length_append, List.length_replicate, lows_length]
  have hcl : (cont (List.replicate 12 0 ++ lows n 4) (List.replicate 4096 0)).length = 4096 := by rw [cont_length _ _ (by rw [hl16, List.length_replicate]; decide), List.length_replicate]
  refine step_copy_blk (by rfl) _ _ 22 (by rfl) Try.underlying22 byte_size (vals .u8 (lows 4096 2)) HB4.out (by rfl) (by rfl) (by rw [vals_length, lows_length]; decide) (own_cells HO4.out (by rw [lows_length])) (by rw [vals_length, vals_length, lows_length, hcl]; decide) vals_one ?_
  have hb5 := Blk.more 16 (lows 4096 2) (HB4.out.setCells (vals .u8 (lows 4096 2)) 16 (by rw [vals_length, vals_length, lows_length, hcl]; decide)) hl16.symm (by rw [hl16, List.length_replicate, lows_length]; decide)
  rw [newB_cont] at hb5
  have hk5 := Kept.setCells (R := fun _ => False) (a := w) (B := w.heap.size) (.inl (Nat.le_refl _)) (vals .u8 (lows 4096 2)) 16 HK4.out
  obtain ⟨w5, hw5⟩ : ∃ w5, w4.setCells w.heap.size 16 (vals .u8 (lows 4096 2)) = w5 := ⟨_, rfl⟩
  rw [hw5] at hb5 hk5 ⊢
  have hO5 := Blk.own hb5 (by rw [newB_length]; decide)
  rw [newB_length] at hO5
  have HK5 := (show Hid (Same w w5) from hk5)
  have hSe := specSeal_any (.slice (some ⟨w.heap.size, 0, none⟩) 4096 4096) (newB n) w5 (newB_isB n) (by rw [newB_length]; decide) hO5.rd
  clear hw5 hb5 hk5 HB4 HK4 HO4 HB3 HK3 hO5
  show K (Act.put _ (some 20) (goInt (vals .u8 (lows 4096 2)).length)) _
  refine hK.out _ _ (fun _ => trivial) ?_
  clear hK K hS
  refine wpAnyV_done (by kernel_rfl) ?_
  try simp only [Act.put, sA, s0, sS]
  go_wp2_with fail
  with_reducible refine hSe.mono ?_
  rintro e w6 ⟨a6, c6, rfl, hf6, ho6, hk6⟩
  have hz5 := HK5.out.size
  go_wp2
  go_ret
  exact ⟨a6, c6, rfl, fun b hb => Nat.le_trans hz5 (hf6 b hb), ho6, HK5.out.trans hk6⟩
theorem specNew_any (n : Int) (w : World) :
    Calls Try.prog 33 #[.int .i64 n] w fun e w' => ∃ a c, e = .returned (.slice a (pageNew n).length c) ∧ (∀ b, (Value.slice a (pageNew n).length c).ownBlock = some b → w.heap.size ≤ b) ∧
      Own 0 5 .u8 w' (.slice a (pageNew n).length c) (pageNew n) ∧ Same w w' := by
  by_cases h : n < 0 ∨ 16 ≤ n
  · have hR : pageNew n = [] := by unfold pageNew; rw [if_pos h]
    rw [hR]
    rcases h with h | h <;>
    ( go_enter Try.func33, Try.ntmps33
      go_wp2
      go_ret
      exact ⟨some ⟨w.heap.size, 0, none⟩, 0, rfl, fun b hb => by simp [Value.ownBlock] at hb; omega, Own.empty _ _, (Kept.refl _ _).alloc _⟩)
  · exact specNew_yes n w (by omega) (by omega)
end Go.Proofs.Ytdachkojbceknaa

namespace Go.Proofs.Ytdachkojbceknaa
set_option maxRecDepth 100000
set_option maxHeartbeats 16000000
open Go.RowKit
set_option linter.unusedVariables false
theorem pageNew_law (s0 : Int) (w : World)  :
    Calls Try.prog 7 #[.int .i64 s0] w fun e w' => e = .returned (.bool true) ∧ Same w w' := by
  go_enter Try.func7, Try.ntmps7
  have HKw : Hid (Same w w) := Kept.refl _ _
  go_wp2_with fail
  refine (specNew_any s0 _ ).mono ?_
  rintro e w1 ⟨aW, cW, rfl, hf, ho, hk⟩
  have hrl : (pageNew s0).length ≤ 1048576 := Nat.le_trans (pageNew_length _) (by omega)
  obtain ⟨r0, hR⟩ : ∃ r, pageNew s0 = r := ⟨_, rfl⟩
  have HR : Hid (pageNew s0 = r0) := hR
  rw [hR] at hrl
  clear hR
  rw [HR.out] at hf ho ⊢
  have HFW := (show Hid (∀ b, (Value.slice aW r0.length cW).ownBlock = some b → w.heap.size ≤ b ∧ b < w1.heap.size) from fun b hb => ⟨hf b hb, (ho.lt b hb).2⟩)
  have HWw1 := (show Hid (Own 0 5 .u8 w1 (.slice aW r0.length cW) r0) from ho)
  clear hf ho
  have hkk : Same w w1 := hk
  have hzw1 := hkk.size
  have HKw1 := (show Hid (Same w w1) from HKw.out.trans hkk)
  clear hkk hk
  go_wp2_with fail
  refine (implNew_any s0 _ ).mono ?_
  rintro e w2 ⟨aG, cG, rfl, hf, ho, hk⟩
  rw [HR.out] at hf ho ⊢
  have HFG := (show Hid (∀ b, (Value.slice aG r0.length cG).ownBlock = some b → w1.heap.size ≤ b ∧ b < w2.heap.size) from fun b hb => ⟨hf b hb, (ho.lt b hb).2⟩)
  have HGw2 := (show Hid (Own 0 58 .u8 w2 (.slice aG r0.length cG) r0) from ho)
  clear hf ho
  have hkk : Same w1 w2 := hk
  have hzw2 := hkk.size
  have HWw2 := (show Hid (Own 0 5 .u8 w2 (.slice aW r0.length cW) r0) from HWw1.out.same hkk)
  have HKw2 := (show Hid (Same w w2) from HKw1.out.trans hkk)
  clear hkk hk
  go_wp2_with fail
  refine (eqByteS_own 0 _ _ r0 _ (by omega) HGw2.out HWw2.out).mono ?_
  rintro e w3 ⟨rfl, nn, hww⟩
  have hk : Same w2 w3 := by rw [hww]; exact (Kept.refl _ _).drewN _
  clear hww
  have hkk : Same w2 w3 := hk
  have hzw3 := hkk.size
  have HWw3 := (show Hid (Own 0 5 .u8 w3 (.slice aW r0.length cW) r0) from HWw2.out.same hkk)
  have HGw3 := hid (HGw2.out.same hkk)
  have HKw3 := (show Hid (Same w w3) from HKw2.out.trans hkk)
  clear hkk hk
  have hE0 : (0 : Int) ≤ 1 := by omega
  have hE0b : (1 : Int) ≤ 1 := by omega
  have hM2 : ¬ (1 + (r0.length : Int)) < 0 := by omega
  go_wp2_with fail
  refine (markByteS_own 0 _ r0 1 _ (by omega) (by omega) (by omega) HGw3.out).mono ?_
  rintro e w4 ⟨rfl, ho, hk⟩
  have hzw4 := hk.size
  have HWw4 := (show Hid (Own 0 5 .u8 w4 (.slice aW r0.length cW) r0) from HWw3.out.kept hk (fun b hb e => by have h1 := HFG.out _ e; have h2 := HFW.out b hb; omega))
  have HKw4 := (show Hid (Same w w4) from HKw3.out.next hk (fun b hb e => by have h1 := HFG.out _ e; omega))
  have HUw4 := (show Hid (Own 0 58 .u8 w4 (.slice aG r0.length cG) (marks 1 r0.length)) from ho)
  clear hk ho
  go_wp2_with fail
  refine (heldByteS_own 0 _ r0.length 1 _ (by omega) (by omega) (by omega) HUw4.out).mono ?_
  rintro e w5 ⟨rfl, hww⟩
  have hk : Same w4 w5 := by rw [hww]; exact Kept.refl _ _
  clear hww
  have hkk : Same w4 w5 := hk
  have hzw5 := hkk.size
  have HWw5 := (show Hid (Own 0 5 .u8 w5 (.slice aW r0.length cW) r0) from HWw4.out.same hkk)
  have HUw5 := hid (HUw4.out.same hkk)
  have HKw5 := (show Hid (Same w w5) from HKw4.out.trans hkk)
  clear hkk hk
  go_wp2_with fail
  refine (implNew_any s0 _ ).mono ?_
  rintro e w6 ⟨aL, cL, rfl, hf, ho, hk⟩
  rw [HR.out] at hf ho ⊢
  have HFL := (show Hid (∀ b, (Value.slice aL r0.length cL).ownBlock = some b → w5.heap.size ≤ b ∧ b < w6.heap.size) from fun b hb => ⟨hf b hb, (ho.lt b hb).2⟩)
  have HLw6 := (show Hid (Own 0 58 .u8 w6 (.slice aL r0.length cL) r0) from ho)
  clear hf ho
  have hkk : Same w5 w6 := hk
  have hzw6 := hkk.size
  have HWw6 := (show Hid (Own 0 5 .u8 w6 (.slice aW r0.length cW) r0) from HWw5.out.same hkk)
  have HUw6 := hid (HUw5.out.same hkk)
  have HKw6 := (show Hid (Same w w6) from HKw5.out.trans hkk)
  clear hkk hk
  go_wp2_with fail
  refine (eqByteS_own 0 _ _ r0 _ (by omega) HLw6.out HWw6.out).mono ?_
  rintro e w7 ⟨rfl, nn, hww⟩
  have hk : Same w6 w7 := by rw [hww]; exact (Kept.refl _ _).drewN _
  clear hww
  have hkk : Same w6 w7 := hk
  have hzw7 := hkk.size
  have HWw7 := (show Hid (Own 0 5 .u8 w7 (.slice aW r0.length cW) r0) from HWw6.out.same hkk)
  have HUw7 := hid (HUw6.out.same hkk)
  have HLw7 := hid (HLw6.out.same hkk)
  have HKw7 := (show Hid (Same w w7) from HKw6.out.trans hkk)
  clear hkk hk
  go_wp2_with fail
  refine (heldByteS_own 0 _ r0.length 1 _ (by omega) (by omega) (by omega) HUw7.out).mono ?_
  rintro e w8 ⟨rfl, hww⟩
  have hk : Same w7 w8 := by rw [hww]; exact Kept.refl _ _
  clear hww
  have hkk : Same w7 w8 := hk
  have hzw8 := hkk.size
  have HUw8 := hid (HUw7.out.same hkk)
  have HKw8 := (show Hid (Same w w8) from HKw7.out.trans hkk)
  clear hkk hk
  go_wp2
  go_ret
  exact ⟨rfl, HKw8.out⟩
end Go.Proofs.Ytdachkojbceknaa

namespace Go.Proofs.Ytdachkojbceknaa.fnExactPageNew
open Go.ChangeShapes Go.WideShapes Go.ChangeAt Go.RowKit
set_option linter.unusedVariables false
theorem own : ownKnob Try.prog.godebug = none := by kernel_rfl
theorem laidOut : laidOutB Try.prog = true := by kernel_rfl
set_option maxRecDepth 100000 in
theorem lifted (os : Os) (started : os.Started) (H : Type) (enc : TypeId × Value → H) :
    ReturnsInHanded {} Try.checked os 7 .any (Rows.fnExactPageNewSpec.pre6 enc Try.prog Try.f7 Rows.fnExactPageNewRow.domain false) (Rows.fnExactPageNewSpec.post enc Try.prog Try.f7 false true false false) := by
  refine returnsInHanded_of_change (C := Try.checked) own started (by kernel_rfl) Try.func7
    (ChangeSpec.witness6 (enc := enc) (C := Try.checked) false ⟨#[], #[.int .i64 0], []⟩ 8 (by kernel_rfl) (by kernel_rfl) (by kernel_rfl) (by kernel_rfl)) ?_
  intro W base args ds gs before hval0 hW hcnd _
  have hval : ∀ (j : Nat) t v, Try.f7.params[j]? = some t → args[j]? = some v → Value.okWide Try.prog W .any base t v := hval0
  have hW' := hW
  obtain ⟨p, q, hA0, hV, rfl, hfz, hnd⟩ := hW
  have hA : DataW.TrodAll enc Try.prog W 0 (fun _ => true) true Try.f7.params.toList args.toList ds p := hA0
  rw [Try.params7] at hA hval
  obtain ⟨v0, vs0, d0, ds0, p0, q0, hargs, rfl, rfl, h0, r0⟩ := trodAll_cons hA
  obtain ⟨rfl, rfl, rfl⟩ := trodAll_nil r0
  obtain rfl : args = #[v0] := by cases args; simp_all
  obtain ⟨rfl, rfl⟩ := trodVars_none hV
  obtain ⟨a0, rfl, rfl, rfl, w0⟩ := open_int Try.underlying2 (hval 0 2 v0 rfl rfl) h0
  clear hA0 hval0
  refine (pageNew_law a0 W ).mono fun e W' ⟨he, hk⟩ => ?_
  have bel : Below W.heap.size W W' := hk.below (Nat.le_refl _) (fun _ _ => id)
  subst he
  exact ⟨_, rfl, _, _, _, [], _, [], hW', trodAll_mk1 (shut_bool Try.underlying4 _), (trodAll_cons_mk (shut_int Try.underlying2 w0) trodAll_mk0), rfl, bel.frame _, fun h => by cases h⟩
theorem over : Rows.fnExactPageNewRow.holds Try.pinned (OpenSpec.ofChange Rows.fnExactPageNewSpec) :=
  OpenClaim.holds_of_wide 7 Try.f7 rfl rfl rfl rfl rfl rfl rfl ⟨rfl, rfl, rfl, rfl, rfl⟩ rfl rfl rfl rfl rfl (by kernel_rfl) Try.func7 (by kernel_rfl)
    (of_decide_eq_true (by kernel_rfl)) (by unfold Func.isWrapper; first | (rw [if_pos (by decide +kernel)]; kernel_rfl) | (rw [if_neg (by decide +kernel)]; exact ⟨rfl, rfl⟩))
    (fun os started H enc _ => lifted os started H enc)
end Go.Proofs.Ytdachkojbceknaa.fnExactPageNew
namespace Go.Proofs.Ytdachkojbceknaa
theorem pageNew_proved : Rows.FnExactPageNewSaid := fnExactPageNew.over
#print axioms pageNew_proved
end Go.Proofs.Ytdachkojbceknaa
