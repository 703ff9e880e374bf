import Derived.Test.YtdbpaadndaoihaaGreatDoorG00
import Derived.Test.YtdbpaadndaoihaaGreatDoorG03
import Derived.Test.YtdbpaadndaoihaaGreatDoorG02
import Derived.Test.YtdbpaadndaoihaaGreatDoorG09
import Derived.Test.YtdbpaadndaoihaaGreatDoorG06
import Derived.Lib.LazyBuf
import Derived.Laws.BytesArg
import Derived.Laws.StructEq
namespace Go.Proofs.YtdbpaadndaoihaaGreatDoor
set_option maxRecDepth 100000
set_option maxHeartbeats 16000000
set_option linter.unusedVariables false
set_option linter.unusedSimpArgs false
open Go.RowKit
def hp4 : List Int := [104, 101, 97, 112]
def mH (s e c l : Int) : List Int := hp4 ++ lows s 8 ++ lows e 4 ++ lows c 8 ++ lows l 8
def mB (s e c l : Int) : List Int := mH s e c l ++ lows (crcOn 0 (mH s e c l)) 4 ++ List.replicate 476 0
def encM (s e c l : Int) : List Int := if mF s e c l = 0 then mB s e c l else []
theorem mH_length (s e c l : Int) : (mH s e c l).length = 32 := by simp [mH, hp4, lows_length]
theorem mB_length (s e c l : Int) : (mB s e c l).length = 512 := by simp [mB, mH_length, lows_length]
theorem lows_isB' (v : Int) (n : Nat) : IsB (lows v n) := by
 induction n with
 | zero => intro y hy; cases hy
 | succ k ih =>
  intro y hy
  rw [lows] at hy
  rcases List.mem_cons.1 hy with rfl | h
  ·omega
  ·exact ih y h
theorem isB_app {a b : List Int} (ha : IsB a) (hb : IsB b) : IsB (a ++ b) := fun y hy => (List.mem_append.1 hy).elim (ha y) (hb y)
theorem hp4_isB : IsB hp4 := by intro y hy; simp [hp4] at hy; omega
theorem mH_isB (s e c l : Int) : IsB (mH s e c l) := isB_app (isB_app (isB_app (isB_app hp4_isB (lows_isB' _ _)) (lows_isB' _ _)) (lows_isB' _ _)) (lows_isB' _ _)
theorem cont_mB (s e c l : Int) : cont (mH s e c l ++ lows (crcOn 0 (mH s e c l)) 4) (List.replicate 512 0) = mB s e c l := by
 unfold cont mB
 rw [List.drop_replicate, List.length_append, mH_length, lows_length]
theorem write_sec {w : World} {B : Nat} {t : TypeId} {A raw : List Int} (o n c : Nat) (x : Int) (hb : Blk w B t (vals .u8 (cont A raw))) (ho : o = A.length) (hl : o + n ≤ raw.length) (hm : raw.length = 512) (h0 : 0 ≤ x) (h1 : x ≤ 9223372036854775807) :
  Calls Tryz.prog 63 #[.slice (some ⟨B, o, none⟩) n c, .int .i64 x] w fun e' w' => e' = .returned (.tuple #[]) ∧ Blk w' B t (vals .u8 (cont (A ++ lows x n) raw)) ∧ Kept (fun b => b = B) w w' := by
 refine (writeNumber_any B o n c t _ x w hb (by rw [vals_length, cont_length _ _ (by omega)]; exact hl) h0 h1 (by omega)).mono ?_
 rintro e' w' ⟨rfl, hb', hk⟩
 exact ⟨rfl, Blk.more o (lows x n) hb' ho (by rw [lows_length]; omega), hk⟩
structure SecS (w wx : World) (s e c l : Int) (A : List Int) : Prop where
 box : Blk wx w.heap.size 66 [.int .i64 s, .int .i64 e, .int .i64 c, .int .i64 l]
 arr : Blk wx (w.heap.size + 1 + 1) 113 (vals .u8 (cont A (List.replicate 512 0)))
 res : Blk wx (w.heap.size + 1) 113 (vals .u8 (List.replicate 512 0))
 same : Same w wx
 sz : w.heap.size + 3 ≤ wx.heap.size
theorem SecS.next {w wx wy : World} {s e c l : Int} {A A' : List Int} (h : SecS w wx s e c l A) (hk : Kept (fun b => b = w.heap.size + 1 + 1) wx wy) (hb : Blk wy (w.heap.size + 1 + 1) 113 (vals .u8 (cont A' (List.replicate 512 0)))) : SecS w wy s e c l A' :=
 ⟨h.box.kept hk (by omega), hb, h.res.kept hk (by omega), h.same.next hk (fun i hi e => by omega), Nat.le_trans h.sz hk.size⟩
theorem SecS.on {w wx wy : World} {s e c l : Int} {A : List Int} (h : SecS w wx s e c l A) (hk : Same wx wy) : SecS w wy s e c l A :=
 ⟨h.box.same hk, h.arr.same hk, h.res.same hk, h.same.trans hk, Nat.le_trans h.sz hk.size⟩
theorem zeroSec : Tryz.zeroCells113.toList = vals .u8 (List.replicate 512 0) := by kernel_rfl
theorem sec_info : (Tryz.prog.info? 113).map (·.size) = some 512 := by kernel_rfl
theorem size8 : ∀ w, (Go.sizeOf 5).run Tryz.prog w = .ok 1 w := by
 intro w
 kernel_rfl
theorem masterSector_any (s e c l : Int) (w : World) (hg : mF s e c l = 0) :
  Calls Tryz.prog 61 #[.agg #[.int .i64 s, .int .i64 e, .int .i64 c, .int .i64 l]] w fun ex w' => ex = .returned (.agg (vals .u8 (mB s e c l)).toArray) ∧ Same w w' := by
 obtain ⟨⟨hs1, hs2⟩, ⟨he1, he2⟩, hl1, hl2, hc2⟩ := mF_good hg
 clear hg
 have hr512 : (List.replicate 512 (0 : Int)).length = 512 := List.length_replicate
 obtain ⟨W0, hW0⟩ : ∃ W0, ((w.alloc (.cells #[.int .i64 s, .int .i64 e, .int .i64 c, .int .i64 l] 66)).alloc (.cells Tryz.zeroCells113 113)).alloc (.cells Tryz.zeroCells113 113) = W0 := ⟨_, rfl⟩
 have HS0 := (show Hid (SecS w W0 s e c l []) from by
  rw [← hW0]
  have h2 := Blk.new (w.alloc (.cells #[.int .i64 s, .int .i64 e, .int .i64 c, .int .i64 l] 66)) Tryz.zeroCells113 113
  have h3 := Blk.new ((w.alloc (.cells #[.int .i64 s, .int .i64 e, .int .i64 c, .int .i64 l] 66)).alloc (.cells Tryz.zeroCells113 113)) Tryz.zeroCells113 113
  rw [World.size_alloc] at h2
  rw [World.size_alloc, World.size_alloc] at h3
  rw [zeroSec] at h2 h3
  have k1 : Same w (w.alloc (.cells #[.int .i64 s, .int .i64 e, .int .i64 c, .int .i64 l] 66)) := (Kept.refl _ _).alloc _
  refine ⟨((Blk.new w #[.int .i64 s, .int .i64 e, .int .i64 c, .int .i64 l] 66).same ((Kept.refl _ _).alloc _)).same ((Kept.refl _ _).alloc _), by rw [cont_nil]; exact h3, h2.same ((Kept.refl _ _).alloc _), (k1.alloc _).alloc _, by simp [World.size_alloc]⟩)
 have hcp := run_copy_string (P := Tryz.prog) W0 22 9 3 5 (w.heap.size + 1 + 1) 0 512 512 { data := #[104, 101, 97, 112] } Tryz.underlying22 size8 (by decide)
  (fun j hj => by rw [HS0.out.arr.cell, List.getElem?_eq_getElem (by rw [vals_length, cont_length _ _ (by simp), hr512]; have : j < 4 := hj; omega)]; rfl) (fun j _ => HS0.out.arr.frozen _)
 obtain ⟨w1, hw1⟩ : ∃ w1, W0.setCells (w.heap.size + 1 + 1) 0 (vals .u8 hp4) = w1 := ⟨_, rfl⟩
 have hcp : (Builtin.copy_ #[22, 9] 3 #[.slice (some ⟨w.heap.size + 1 + 1, 0, none⟩) 512 512, .string { data := #[104, 101, 97, 112] }]).run Tryz.prog W0 = .ok (.int .i64 4) w1 := by rw [← hw1]; exact hcp
 have HE1 := (show Hid (SecS w w1 s e c l ([] ++ hp4)) from by
  have hb := HS0.out.arr.setCells (vals .u8 hp4) 0 (by rw [vals_length, vals_length, cont_length _ _ (by simp), hr512]; decide)
  have hk := Kept.setCells (R := fun b => b = w.heap.size + 1 + 1) (a := W0) (B := w.heap.size + 1 + 1) (.inr rfl) (vals .u8 hp4) 0 (Kept.refl _ _)
  rw [hw1] at hb hk
  exact HS0.out.next hk (Blk.more 0 hp4 hb rfl (by rw [hr512]; decide)))
 clear hw1 HS0
 rw [← hW0] at hcp
 clear hW0
 go_enter Tryz.func61, Tryz.ntmps61
 go_wp2_with fail
 clear hcp
 have hE := HE1.out.on (Kept.refl _ _).drew
 have hS : (fun wx : World => wx.cell? ⟨w.heap.size, 0, none⟩ = some (.int .i64 s)) w1.drew := by exact hE.box.cell 0
 refine wp_region_V (fun wx : World => wx.cell? ⟨w.heap.size, 0, none⟩ = some (.int .i64 s)) 99 4 rfl (by kernel_rfl) ?_
 refine tk 0 6 hS ?_
 refine tk 1 7 hS ?_
 refine tk 2 8 hS ?_
 refine wpAnyV_one (i := 3) (by kernel_rfl) rfl (fun K hK => ?_)
 go_simp
 have hc := write_sec 4 8 508 s hE.arr (by simp [hp4, lows_length]) (by rw [hr512]; decide) hr512 (by omega) (by omega)
 with_reducible refine hc.mono ?_
 rintro ex w2 ⟨rfl, hb, hk⟩
 have HE2 := (show Hid (SecS w w2 s e c l ([] ++ hp4 ++ lows s 8)) from hE.next hk hb)
 have hS2 : (fun wx : World => wx.cell? ⟨w.heap.size, 0, none⟩ = some (.int .i64 s)) w2 := HE2.out.box.cell 0
 clear hb hk hE hc hS
 refine hK.out _ _ (fun _ => hS2) ?_
 clear hK K hS2 HE1
 refine wpAnyV_done (by kernel_rfl) ?_
 try simp only [Act.put, sA, s0, sS]
 go_wp2_with fail
 have hE := HE2.out.on (Kept.refl _ _).drew
 have hS : (fun wx : World => wx.cell? ⟨w.heap.size, 1, none⟩ = some (.int .i64 e)) w2.drew := by exact hE.box.cell 1
 refine wp_region_V (fun wx : World => wx.cell? ⟨w.heap.size, 1, none⟩ = some (.int .i64 e)) 99 4 rfl (by kernel_rfl) ?_
 refine tk 0 10 hS ?_
 refine tk 1 11 hS ?_
 refine tk 2 12 hS ?_
 refine wpAnyV_one (i := 3) (by kernel_rfl) rfl (fun K hK => ?_)
 go_simp
 have hc := write_sec 12 4 500 e hE.arr (by simp [hp4, lows_length]) (by rw [hr512]; decide) hr512 (by omega) (by omega)
 with_reducible refine hc.mono ?_
 rintro ex w3 ⟨rfl, hb, hk⟩
 have HE3 := (show Hid (SecS w w3 s e c l ([] ++ hp4 ++ lows s 8 ++ lows e 4)) from hE.next hk hb)
 have hS2 : (fun wx : World => wx.cell? ⟨w.heap.size, 1, none⟩ = some (.int .i64 e)) w3 := HE3.out.box.cell 1
 clear hb hk hE hc hS
 refine hK.out _ _ (fun _ => hS2) ?_
 clear hK K hS2 HE2
 refine wpAnyV_done (by kernel_rfl) ?_
 try simp only [Act.put, sA, s0, sS]
 go_wp2_with fail
 have hE := HE3.out.on (Kept.refl _ _).drew
 have hS : (fun wx : World => wx.cell? ⟨w.heap.size, 2, none⟩ = some (.int .i64 c)) w3.drew := by exact hE.box.cell 2
 refine wp_region_V (fun wx : World => wx.cell? ⟨w.heap.size, 2, none⟩ = some (.int .i64 c)) 99 4 rfl (by kernel_rfl) ?_
 refine tk 0 14 hS ?_
 refine tk 1 15 hS ?_
 refine tk 2 16 hS ?_
 refine wpAnyV_one (i := 3) (by kernel_rfl) rfl (fun K hK => ?_)
 go_simp
 have hc := write_sec 16 8 496 c hE.arr (by simp [hp4, lows_length]) (by rw [hr512]; decide) hr512 (by omega) (by omega)
 with_reducible refine hc.mono ?_
 rintro ex w4 ⟨rfl, hb, hk⟩
 have HE4 := (show Hid (SecS w w4 s e c l ([] ++ hp4 ++ lows s 8 ++ lows e 4 ++ lows c 8)) from hE.next hk hb)
 have hS2 : (fun wx : World => wx.cell? ⟨w.heap.size, 2, none⟩ = some (.int .i64 c)) w4 := HE4.out.box.cell 2
 clear hb hk hE hc hS
 refine hK.out _ _ (fun _ => hS2) ?_
 clear hK K hS2 HE3
 refine wpAnyV_done (by kernel_rfl) ?_
 try simp only [Act.put, sA, s0, sS]
 go_wp2_with fail
 have hE := HE4.out.on (Kept.refl _ _).drew
 have hS : (fun wx : World => wx.cell? ⟨w.heap.size, 3, none⟩ = some (.int .i64 l)) w4.drew := by exact hE.box.cell 3
 refine wp_region_V (fun wx : World => wx.cell? ⟨w.heap.size, 3, none⟩ = some (.int .i64 l)) 99 4 rfl (by kernel_rfl) ?_
 refine tk 0 18 hS ?_
 refine tk 1 19 hS ?_
 refine tk 2 20 hS ?_
 refine wpAnyV_one (i := 3) (by kernel_rfl) rfl (fun K hK => ?_)
 go_simp
 have hc := write_sec 24 8 488 l hE.arr (by simp [hp4, lows_length]) (by rw [hr512]; decide) hr512 (by omega) (by omega)
 with_reducible refine hc.mono ?_
 rintro ex w5 ⟨rfl, hb, hk⟩
 have HE5 := (show Hid (SecS w w5 s e c l ([] ++ hp4 ++ lows s 8 ++ lows e 4 ++ lows c 8 ++ lows l 8)) from hE.next hk hb)
 have hS2 : (fun wx : World => wx.cell? ⟨w.heap.size, 3, none⟩ = some (.int .i64 l)) w5 := HE5.out.box.cell 3
 clear hb hk hE hc hS
 refine hK.out _ _ (fun _ => hS2) ?_
 clear hK K hS2 HE4
 refine wpAnyV_done (by kernel_rfl) ?_
 try simp only [Act.put, sA, s0, sS]
 go_wp2_with fail
 have hE0 := HE5.out
 rw [show [] ++ hp4 ++ lows s 8 ++ lows e 4 ++ lows c 8 ++ lows l 8 = mH s e c l from rfl] at hE0
 have HE := (show Hid (SecS w w5 s e c l (mH s e c l)) from hE0)
 clear hE0 HE5
 have hE := HE.out.on (Kept.refl _ _).drew
 have hS : (fun wx : World => True) w5.drew := by trivial
 refine wp_region_V (fun wx : World => True) 99 4 rfl (by kernel_rfl) ?_
 refine tk 0 22 hS ?_
 refine tk 1 23 hS ?_
 refine wpAnyV_one (i := 2) (by kernel_rfl) rfl (fun K hK => ?_)
 go_simp
 have hrd : Rd .u8 w5.drew (.slice (some ⟨w.heap.size + 1 + 1, 0, none⟩) 32 512) (mH s e c l) := by
  have h := Blk.rd hE.arr 0 32 512 (by rw [cont_length _ _ (by rw [mH_length, hr512]; decide), hr512]; decide) (by decide) (by rw [cont_length _ _ (by rw [mH_length, hr512]; decide), hr512]; decide)
  rw [show ((cont (mH s e c l) (List.replicate 512 0)).drop 0).take 32 = mH s e c l from by rw [List.drop_zero]; unfold cont; rw [List.take_append_of_le_length (by rw [mH_length]; decide), List.take_of_length_le (by rw [mH_length]; decide)]] at h
  exact h
 have hc := implCrc_any _ _ _ (mH_isB s e c l) (by rw [mH_length]; decide) hrd
 with_reducible refine hc.mono ?_
 rintro ex w6 ⟨rfl, hk⟩
 have HE6 := (show Hid (SecS w w6 s e c l (mH s e c l)) from hE.on hk)
 clear hk hE hc hrd
 refine hK.out _ _ (fun _ => trivial) ?_
 clear hK K
 try simp only [Act.put, sA, s0, sS]
 refine wpAnyV_one (i := 3) (by kernel_rfl) rfl (fun K hK => ?_)
 go_simp
 have hq := crcOn_le 0 (mH s e c l) (by decide) (by decide) (mH_isB s e c l)
 have hc := write_sec 32 4 480 (crcOn 0 (mH s e c l)) HE6.out.arr (by rw [mH_length]) (by rw [hr512]; decide) hr512 hq.1 (by omega)
 with_reducible refine hc.mono ?_
 rintro ex w7 ⟨rfl, hb, hk⟩
 have hE7 := HE6.out.next hk hb
 rw [show (SecS w w7 s e c l (mH s e c l ++ lows (crcOn 0 (mH s e c l)) 4)) = SecS w w7 s e c l (mH s e c l ++ lows (crcOn 0 (mH s e c l)) 4) from rfl] at hE7
 have hb7 := hE7.arr
 rw [cont_mB] at hb7
 have hr7 := hE7.res
 have hk7 := hE7.same
 have hz7 := hE7.sz
 clear hb hk hE7 hc HE6
 refine hK.out _ _ (fun _ => trivial) ?_
 clear hK K hS HE
 refine wpAnyV_done (by kernel_rfl) ?_
 try simp only [Act.put, sA, s0, sS]
 have hlen : (vals .u8 (mB s e c l)).length = 512 := by rw [vals_length, mB_length]
 obtain ⟨cs, hcs⟩ : ∃ cs : List Value, vals .u8 (mB s e c l) = cs := ⟨_, rfl⟩
 have HONE := (show Hid (cs.toArray.all (·.oneCell') = true) from by rw [← hcs]; exact all_oneCell_toArray vals_one)
 have HRG := (show Hid (w7.rangeAt (w.heap.size + 1 + 1) 0 cs) from by rw [← hcs]; exact hb7.rangeAll)
 have HI := (show Hid ((Tryz.prog.info? 113).map (·.size) = some cs.length) from by rw [← hcs, hlen]; exact sec_info)
 have HI2 := (show Hid ((Tryz.prog.info? 113).map (·.size) = some cs.toArray.size) from by rw [List.size_toArray]; exact HI.out)
 have HT := (show Hid (w7.there (w.heap.size + 1) 0 cs.toArray.size) from hr7.there 0 _ (by rw [List.size_toArray, ← hcs, hlen, vals_length, hr512]; decide))
 have HB := (show Hid (Blk (w7.setCells (w.heap.size + 1) 0 cs) (w.heap.size + 1) 113 cs) from by
  have h := hr7.setCells cs 0 (by rw [← hcs, hlen, vals_length, hr512]; decide)
  rwa [lay_all _ _ (by rw [← hcs, hlen, vals_length, hr512])] at h)
 have HKE := (show Hid (Same w (w7.setCells (w.heap.size + 1) 0 cs)) from Kept.setCells (.inl (Nat.le_succ _)) cs 0 hk7)
 have HCS := (show Hid (vals .u8 (mB s e c l) = cs) from hcs)
 clear hcs hlen hb7 hr7
 go_wp2_with (first | (refine wpList_load_mid rfl 113 _ rfl (w.heap.size + 1 + 1) 0 rfl cs _ HRG.out Tryz.underlying113 rfl HI.out ?_) | (refine wpList_store_mid rfl 113 _ _ rfl (w.heap.size + 1) 0 cs.toArray rfl rfl HT.out HI2.out HONE.out ?_))
 have HRG2 := HB.out.rangeAll
 have hlv := run_loadVar_mid (P := Tryz.prog) _ (w.heap.size + 1) 0 113 cs _ HRG2 Tryz.underlying113 rfl HI.out
 refine bodyPost_ret (v := .agg cs.toArray) ?_ rfl ?_
 ·try simp only [Act.put, List.setIfInBounds_toArray, List.set_cons_zero, List.set_cons_succ]
  simp [results, Tryz.results61, asAddr, hlv]
 ·rw [HCS.out]
  exact ⟨rfl, HKE.out⟩
theorem encM_yes {s e c l : Int} (h : mF s e c l = 0) : encM s e c l = mB s e c l := if_pos h
theorem encM_no {s e c l : Int} (h : mF s e c l ≠ 0) : encM s e c l = [] := if_neg h
theorem errV_no {a0 a1 a2 : Addr} {s e c l : Int} (h : mF s e c l ≠ 0) : ∃ a, errV a0 a1 a2 (mF s e c l) = .iface 222 (.pointer (some a)) := by
 rcases mF_cases s e c l with h0 | h0 | h0 | h0
 ·exact absurd h0 h
 ·rw [h0]; exact ⟨a0, rfl⟩
 ·rw [h0]; exact ⟨a1, rfl⟩
 ·rw [h0]; exact ⟨a2, rfl⟩
theorem implEM_any (s e c l : Int) (a0 a1 a2 : Addr) (w : World) (hE : Errs w a0 a1 a2) :
  Calls Tryz.prog 26 #[.agg #[.int .i64 s, .int .i64 e, .int .i64 c, .int .i64 l]] w fun ex w' => ∃ a c', ex = .returned (.slice a (encM s e c l).length c') ∧ (∀ b, (Value.slice a (encM s e c l).length c').ownBlock = some b → w.heap.size ≤ b) ∧
   Own 0 113 .u8 w' (.slice a (encM s e c l).length c') (encM s e c l) ∧ Same w w' := by
 have HK0 := hid (sameA w [.int .i64 s, .int .i64 e, .int .i64 c, .int .i64 l] 66)
 have k1 := wrongMaster_any s e c l a0 a1 a2 _ (hE.same HK0.out)
 clear hE
 have b0 := Blk.new w #[.int .i64 s, .int .i64 e, .int .i64 c, .int .i64 l] 66
 by_cases hg : mF s e c l = 0
 ·rw [hg, show errV a0 a1 a2 0 = .nilIface from rfl] at k1
  rw [encM_yes hg, mB_length]
  have k2 := fun wx => masterSector_any s e c l wx hg
  have hsz : (vals .u8 (mB s e c l)).toArray.size = 512 := by rw [List.size_toArray, vals_length, mB_length]
  obtain ⟨cs, hcs⟩ : ∃ cs : Array Value, (vals .u8 (mB s e c l)).toArray = cs := ⟨_, rfl⟩
  have HCS := (show Hid ((vals .u8 (mB s e c l)).toArray = cs) from hcs)
  have HONE := (show Hid (cs.all (·.oneCell') = true) from by rw [← hcs]; exact all_oneCell_toArray vals_one)
  rw [hcs] at k2 hsz
  clear hcs hg
  go_enter Tryz.func26, Tryz.ntmps26
  go_wp2_with (first
   | (go_at_call 60; (with_reducible refine k1.mono ?_); rintro ex w1 ⟨rfl, hk1⟩; have b1 := b0.same hk1; obtain ⟨d0, d1, d2, d3⟩ := b1.all4; have HK1 := (show Hid (Same w w1) from HK0.out.trans hk1); clear hk1)
   | (go_at_call 61; (with_reducible refine (k2 _).mono ?_); rintro ex w2 ⟨rfl, hk2⟩; have HK2 := (show Hid (Same w w2) from HK1.out.trans hk2); clear hk2; have hst := run_storeCells_new (P := Tryz.prog) w2 113 Tryz.zeroCells113 cs (by rw [hsz]; exact sec_info) (by rw [hsz]; exact Tryz.zeroCells113_size) HONE.out))
  go_ret
  have hb := Blk.new w2 cs 113
  rw [← HCS.out] at hb
  refine ⟨_, _, rfl, ?_, ?_, HK2.out.alloc _⟩
  ·intro b hb'
   have : w2.heap.size = b := by simpa [Value.ownBlock] using hb'
   have := HK2.out.size
   omega
  ·rw [← HCS.out]
   have h2 : Blk (w2.alloc (.cells (vals .u8 (mB s e c l)).toArray 113)) w2.heap.size 113 (vals .u8 (mB s e c l)) := hb
   have h3 := Blk.own h2 (by rw [mB_length]; decide)
   rwa [mB_length] at h3
 ·obtain ⟨a, ha⟩ := errV_no (a0 := a0) (a1 := a1) (a2 := a2) hg
  rw [ha] at k1
  rw [encM_no hg]
  go_enter Tryz.func26, Tryz.ntmps26
  go_wp2_with (first
   | (go_at_call 60; (with_reducible refine k1.mono ?_); rintro ex w1 ⟨rfl, hk1⟩; have HK1 := (show Hid (Same w w1) from HK0.out.trans hk1); clear hk1))
  go_ret
  exact ⟨none, 0, rfl, fun b hb => by simp [Value.ownBlock] at hb, Own.nil _ _ _ _, HK1.out⟩
theorem conv_any {w : World} {v : Value} {bs : List Int} (h : Rd .u8 w v bs) : (convert 22 9 v).run Tryz.prog w = .ok (.string (strOfNums bs)) w := by
 rcases h.2 with ⟨rfl, a, c, rfl, _⟩ | ⟨b, off, c, rfl, _, hc⟩
 ·rw [run_convert_bytes_string w 22 9 5 _ 0 c (by kernel_rfl) (by kernel_rfl) (by kernel_rfl)]
  cases a <;> simp [Conv.bytesToString, loadCells]
  all_goals rfl
 ·exact run_convert_bytes_arg w 22 5 (by kernel_rfl) (by kernel_rfl) b off bs.length c bs rfl hc 9 (by kernel_rfl)
theorem strOfNums_inj : ∀ {xs bs : List Int}, IsB xs → IsB bs → strOfNums xs = strOfNums bs → xs = bs := by
 intro xs bs ha hb h
 have h2 : xs.map (fun n => UInt8.ofNat n.toNat) = bs.map (fun n => UInt8.ofNat n.toNat) := by
  have h3 := congrArg (fun s => s.data.toList) h
  simpa [strOfNums] using h3
 have hl : xs.length = bs.length := by have := congrArg List.length h2; simpa using this
 apply List.ext_getElem hl
 intro i h1 h4
 have h5 := congrArg (fun l => l[i]?) h2
 simp [h1, h4] at h5
 have h6 := ha _ (List.getElem_mem h1)
 have h7 := hb _ (List.getElem_mem h4)
 have h8 := congrArg UInt8.toNat h5
 simp at h8
 omega
theorem bytesEq_any (va vb : Value) (xs bs : List Int) (w : World) (ha : IsB xs) (hb : IsB bs) (hra : Rd .u8 w va xs) (hrb : Rd .u8 w vb bs) :
  Calls Tryz.prog 116 #[va, vb] w fun e w' => e = .returned (.bool (decide (xs = bs))) ∧ Same w w' := by
 have h1 := conv_any hra
 have h2 := conv_any hrb
 have HE := (show Hid (((strOfNums xs).toList == (strOfNums bs).toList) = decide (xs = bs)) from by
  by_cases h : xs = bs
  ·subst h
   show _ = _
   simp
  ·rw [decide_eq_false h]
   refine beq_eq_false_iff_ne.2 (fun e => h (strOfNums_inj ha hb ?_))
   rw [ByteArray.toList_eq, ByteArray.toList_eq] at e
   exact ByteArray.ext (Array.ext' e))
 generalize strOfNums xs = s at *
 generalize strOfNums bs = t at *
 clear ha hb hra hrb
 go_enter Tryz.func116, Tryz.ntmps116
 go_wp2
 go_ret
 exact ⟨by rw [← HE.out]; rfl, Kept.refl _ _⟩
theorem sameTxnEntry_nil (a : Option Addr) (n c : Nat) (w : World) (hn : n ≤ maxLen) : Calls Tryz.prog 114 #[.slice none 0 0, .slice a n c] w fun e w' => e = .returned (.bool (decide (n = 0))) ∧ Same w w' := by
 by_cases h : n = 0
 ·subst h
  go_enter Tryz.func114, Tryz.ntmps114
  go_wp2
  refine wp_loop_rounds 1 ?_
  rw [rounds_succ]
  go_wp2
  go_ret
  exact ⟨rfl, Kept.refl _ _⟩
 ·have h2 : ¬ (0 : Int) = (n : Int) := by omega
  go_enter Tryz.func114, Tryz.ntmps114
  go_wp2
  go_ret
  exact ⟨by rw [decide_eq_false h]; rfl, Kept.refl _ _⟩
theorem sameTxnEntry_self (x : FR) (w : World) (hn : x.n ≤ 1125899906842624) (hv : RdF 4 w x) : Calls Tryz.prog 114 #[x.v, x.v] w fun e w' => e = .returned (.bool true) ∧ Same w w' := by
 obtain ⟨hmax, hlen, hform⟩ := hv
 obtain ⟨xe, xa, len, xc, bs⟩ := x
 dsimp only [FR.v] at *
 by_cases h0 : len = 0
 ·subst h0
  go_enter Tryz.func114, Tryz.ntmps114
  go_wp2
  refine wp_loop_rounds 1 ?_
  rw [rounds_succ]
  go_wp2
  go_ret
  exact ⟨rfl, Kept.refl _ _⟩
 ·obtain ⟨b, off, rfl, hle, hc⟩ := hform.resolve_left h0
  have HC := (show Hid (∀ i, i < len * 4 → w.cell? ⟨b, off + i, none⟩ = some (.int .i64 (bs.getD i 0))) from hc)
  clear hc hform hlen hmax
  go_enter Tryz.func114, Tryz.ntmps114
  go_wp2
  go_loopw [5, 13] (fun _ i wr => ∃ (k : Nat), k ≤ len ∧ i = .int .i64 k ∧ Hid (Same w wr)) (fun _ i _ => len - (intOf i).toNat)
  case atStart => exact ⟨0, Nat.zero_le _, rfl, Kept.refl _ _⟩
  case round =>
   obtain ⟨k, hk, rfl, HK⟩ := hrel
   by_cases hlt : k < len
   ·have q0 : wr.cell? ⟨b, off + k * 4, none⟩ = some (.int .i64 (bs.getD (k * 4) 0)) := by have h := HK.out.cellOf (HC.out (k * 4) (by omega)) id; simpa only [Nat.add_assoc] using h
    have q1 : wr.cell? ⟨b, off + k * 4 + 1, none⟩ = some (.int .i64 (bs.getD (k * 4 + 1) 0)) := by have h := HK.out.cellOf (HC.out (k * 4 + 1) (by omega)) id; simpa only [Nat.add_assoc] using h
    have q2 : wr.cell? ⟨b, off + k * 4 + 2, none⟩ = some (.int .i64 (bs.getD (k * 4 + 2) 0)) := by have h := HK.out.cellOf (HC.out (k * 4 + 2) (by omega)) id; simpa only [Nat.add_assoc] using h
    have q3 : wr.cell? ⟨b, off + k * 4 + 3, none⟩ = some (.int .i64 (bs.getD (k * 4 + 3) 0)) := by have h := HK.out.cellOf (HC.out (k * 4 + 3) (by omega)) id; simpa only [Nat.add_assoc] using h
    generalize bs.getD (k * 4) 0 = x0 at *
    generalize bs.getD (k * 4 + 1) 0 = x1 at *
    generalize bs.getD (k * 4 + 2) 0 = x2 at *
    generalize bs.getD (k * 4 + 3) 0 = x3 at *
    go_wp2
    go_quiet (fail)
    go_wp2
    go_roundw
    case rel => exact ⟨k + 1, by omega, by go_num, HK.out.drewN _⟩
    case measure => simp [intOf]; omega
   ·go_wp2
    go_ret
    exact ⟨rfl, HK.out⟩
theorem sameDirtyEntry_nil (a : Option Addr) (n c : Nat) (w : World) (hn : n ≤ maxLen) : Calls Tryz.prog 115 #[.slice none 0 0, .slice a n c] w fun e w' => e = .returned (.bool (decide (n = 0))) ∧ Same w w' := by
 by_cases h : n = 0
 ·subst h
  go_enter Tryz.func115, Tryz.ntmps115
  go_wp2
  refine wp_loop_rounds 1 ?_
  rw [rounds_succ]
  go_wp2
  go_ret
  exact ⟨rfl, Kept.refl _ _⟩
 ·have h2 : ¬ (0 : Int) = (n : Int) := by omega
  go_enter Tryz.func115, Tryz.ntmps115
  go_wp2
  go_ret
  exact ⟨by rw [decide_eq_false h]; rfl, Kept.refl _ _⟩
theorem sameDirtyEntry_self (x : FR) (w : World) (hn : x.n ≤ 1125899906842624) (hv : RdF 2 w x) : Calls Tryz.prog 115 #[x.v, x.v] w fun e w' => e = .returned (.bool true) ∧ Same w w' := by
 obtain ⟨hmax, hlen, hform⟩ := hv
 obtain ⟨xe, xa, len, xc, bs⟩ := x
 dsimp only [FR.v] at *
 by_cases h0 : len = 0
 ·subst h0
  go_enter Tryz.func115, Tryz.ntmps115
  go_wp2
  refine wp_loop_rounds 1 ?_
  rw [rounds_succ]
  go_wp2
  go_ret
  exact ⟨rfl, Kept.refl _ _⟩
 ·obtain ⟨b, off, rfl, hle, hc⟩ := hform.resolve_left h0
  have HC := (show Hid (∀ i, i < len * 2 → w.cell? ⟨b, off + i, none⟩ = some (.int .i64 (bs.getD i 0))) from hc)
  clear hc hform hlen hmax
  go_enter Tryz.func115, Tryz.ntmps115
  go_wp2
  go_loopw [5, 13] (fun _ i wr => ∃ (k : Nat), k ≤ len ∧ i = .int .i64 k ∧ Hid (Same w wr)) (fun _ i _ => len - (intOf i).toNat)
  case atStart => exact ⟨0, Nat.zero_le _, rfl, Kept.refl _ _⟩
  case round =>
   obtain ⟨k, hk, rfl, HK⟩ := hrel
   by_cases hlt : k < len
   ·have q0 : wr.cell? ⟨b, off + k * 2, none⟩ = some (.int .i64 (bs.getD (k * 2) 0)) := by have h := HK.out.cellOf (HC.out (k * 2) (by omega)) id; simpa only [Nat.add_assoc] using h
    have q1 : wr.cell? ⟨b, off + k * 2 + 1, none⟩ = some (.int .i64 (bs.getD (k * 2 + 1) 0)) := by have h := HK.out.cellOf (HC.out (k * 2 + 1) (by omega)) id; simpa only [Nat.add_assoc] using h
    generalize bs.getD (k * 2) 0 = x0 at *
    generalize bs.getD (k * 2 + 1) 0 = x1 at *
    go_wp2
    go_quiet (fail)
    go_wp2
    go_roundw
    case rel => exact ⟨k + 1, by omega, by go_num, HK.out.drewN _⟩
    case measure => simp [intOf]; omega
   ·go_wp2
    go_ret
    exact ⟨rfl, HK.out⟩
def isTxnB (x : Int) : Bool := decide (1 ≤ x) && decide (x ≤ 2147483647)
def isSlotB (x : Int) : Bool := decide (0 ≤ x) && decide (x < 32)
def fitsB (u : Bool) (n : Nat) : Bool := decide (n ≤ 1000) && (u || decide (n = 0))
def headF (txn prev : Int) : Int := if isTxnB txn = false then 3 else if isLSN prev = false then 4 else 0
def placeF (page slot : Int) : Int := if (isPageB page && isSlotB slot) = true then 0 else 5
def orF (a b c : Int) : Int := if a ≠ 0 then a else if b ≠ 0 then b else c
def updF (bu au : Bool) (bn an : Nat) : Int := if (fitsB bu bn && fitsB au an && (bu || au)) = true then 0 else 6
def undF (au : Bool) (an : Nat) (un : Int) : Int := if fitsB au an = false then 6 else if isLSN un = false then 7 else 0
theorem isTxn_any (x : Int) (w : World) : Calls Tryz.prog 171 #[.int .i64 x] w fun e w' => e = .returned (.bool (isTxnB x)) ∧ Same w w' := by
 unfold isTxnB
 by_cases h : 1 ≤ x
 ·by_cases h2 : x ≤ 2147483647
  ·go_enter Tryz.func171, Tryz.ntmps171
   go_wp2
   go_ret
   exact ⟨by simp [h, h2], Kept.refl _ _⟩
  ·go_enter Tryz.func171, Tryz.ntmps171
   go_wp2
   go_ret
   exact ⟨by simp [h]; omega, Kept.refl _ _⟩
 ·go_enter Tryz.func171, Tryz.ntmps171
  go_wp2
  go_ret
  exact ⟨by rw [show decide (1 ≤ x) = false from by simp; omega]; rfl, Kept.refl _ _⟩
end Go.Proofs.YtdbpaadndaoihaaGreatDoor
