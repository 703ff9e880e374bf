import Derived.Test.YtnkollbhicmdhaaDoorG00
import Derived.Test.YtnkollbhicmdhaaDoorG02
import Derived.Test.YtnkollbhicmdhaaDoorG01
import Derived.Lib.LazyBuf
import Derived.Laws.AppendOwnNone
import Derived.Deep.AppendLies
import Derived.Lib.AppendZerosOnto
import Derived.Deep.AppendSrc
import Derived.Lib.SmallJoins
namespace Go.Proofs.YtnkollbhicmdhaaDoor
set_option maxRecDepth 100000
set_option maxHeartbeats 8000000
set_option linter.unusedVariables false
set_option linter.unusedSimpArgs false
open Go.RowKit
def hp4 : List Int := [104, 101, 97, 112]
def mH (s e c l : Int) : List Int := hp4 ++ lows s 8 ++ lows e 4 ++ lows c 8 ++ lows l 8
def mB (s e c l : Int) : List Int := mH s e c l ++ lows (crcOn 0 (mH s e c l)) 4 ++ List.replicate 476 0
def encM (s e c l : Int) : List Int := if mF s e c l = 0 then mB s e c l else []
theorem mH_length (s e c l : Int) : (mH s e c l).length = 32 := by simp [mH, hp4, lows_length]
theorem mB_length (s e c l : Int) : (mB s e c l).length = 512 := by simp [mB, mH_length, lows_length]
theorem lows_isB' (v : Int) (n : Nat) : IsB (lows v n) := by
 induction n with
 | zero => intro y hy; cases hy
 | succ k ih =>
  intro y hy
  rw [lows] at hy
  rcases List.mem_cons.1 hy with rfl | h
  ·omega
  ·exact ih y h
theorem isB_app {a b : List Int} (ha : IsB a) (hb : IsB b) : IsB (a ++ b) := fun y hy => (List.mem_append.1 hy).elim (ha y) (hb y)
theorem hp4_isB : IsB hp4 := by intro y hy; simp [hp4] at hy; omega
theorem mH_isB (s e c l : Int) : IsB (mH s e c l) := isB_app (isB_app (isB_app (isB_app hp4_isB (lows_isB' _ _)) (lows_isB' _ _)) (lows_isB' _ _)) (lows_isB' _ _)
theorem zero_isB (n : Nat) : IsB (List.replicate n 0) := fun y hy => by rw [List.eq_of_mem_replicate hy]; omega
theorem mB_isB (s e c l : Int) : IsB (mB s e c l) := isB_app (isB_app (mH_isB _ _ _ _) (lows_isB' _ _)) (zero_isB _)
theorem cont_mB (s e c l : Int) : cont (mH s e c l ++ lows (crcOn 0 (mH s e c l)) 4) (List.replicate 512 0) = mB s e c l := by
 unfold cont mB
 rw [List.drop_replicate, List.length_append, mH_length, lows_length]
theorem write_sec {w : World} {B : Nat} {t : TypeId} {A raw : List Int} (o n c : Nat) (x : Int) (hb : Blk w B t (vals .u8 (cont A raw))) (ho : o = A.length) (hl : o + n ≤ raw.length) (hm : raw.length = 512) (h0 : 0 ≤ x) (h1 : x ≤ 9223372036854775807) :
  Calls Tryd.prog 80 #[.slice (some ⟨B, o, none⟩) n c, .int .i64 x] w fun e' w' => e' = .returned (.tuple #[]) ∧ Blk w' B t (vals .u8 (cont (A ++ lows x n) raw)) ∧ Kept (fun b => b = B) w w' := by
 refine (writeNumber_any B o n c t _ x w hb (by rw [vals_length, cont_length _ _ (by omega)]; exact hl) h0 h1 (by omega)).mono ?_
 rintro e' w' ⟨rfl, hb', hk⟩
 exact ⟨rfl, Blk.more o (lows x n) hb' ho (by rw [lows_length]; omega), hk⟩
structure SecS (w wx : World) (s e c l : Int) (A : List Int) : Prop where
 box : Blk wx w.heap.size 28 [.int .i64 s, .int .i64 e, .int .i64 c, .int .i64 l]
 arr : Blk wx (w.heap.size + 1 + 1) 94 (vals .u8 (cont A (List.replicate 512 0)))
 res : Blk wx (w.heap.size + 1) 94 (vals .u8 (List.replicate 512 0))
 same : Same w wx
 sz : w.heap.size + 3 ≤ wx.heap.size
theorem SecS.next {w wx wy : World} {s e c l : Int} {A A' : List Int} (h : SecS w wx s e c l A) (hk : Kept (fun b => b = w.heap.size + 1 + 1) wx wy) (hb : Blk wy (w.heap.size + 1 + 1) 94 (vals .u8 (cont A' (List.replicate 512 0)))) : SecS w wy s e c l A' :=
 ⟨h.box.kept hk (by omega), hb, h.res.kept hk (by omega), h.same.next hk (fun i hi e => by omega), Nat.le_trans h.sz hk.size⟩
theorem SecS.on {w wx wy : World} {s e c l : Int} {A : List Int} (h : SecS w wx s e c l A) (hk : Same wx wy) : SecS w wy s e c l A :=
 ⟨h.box.same hk, h.arr.same hk, h.res.same hk, h.same.trans hk, Nat.le_trans h.sz hk.size⟩
theorem zeroSec : Tryd.zeroCells94.toList = vals .u8 (List.replicate 512 0) := by kernel_rfl
theorem sec_info : (Tryd.prog.info? 94).map (·.size) = some 512 := by kernel_rfl
theorem size8 : ∀ w, (Go.sizeOf 5).run Tryd.prog w = .ok 1 w := by
 intro w
 kernel_rfl
theorem masterSector_any (s e c l : Int) (w : World) (hg : mF s e c l = 0) :
  Calls Tryd.prog 59 #[.agg #[.int .i64 s, .int .i64 e, .int .i64 c, .int .i64 l]] w fun ex w' => ex = .returned (.agg (vals .u8 (mB s e c l)).toArray) ∧ Same w w' := by
 obtain ⟨⟨hs1, hs2⟩, ⟨he1, he2⟩, hl1, hl2, hc2⟩ := mF_good hg
 clear hg
 have hr512 : (List.replicate 512 (0 : Int)).length = 512 := List.length_replicate
 obtain ⟨W0, hW0⟩ : ∃ W0, ((w.alloc (.cells #[.int .i64 s, .int .i64 e, .int .i64 c, .int .i64 l] 28)).alloc (.cells Tryd.zeroCells94 94)).alloc (.cells Tryd.zeroCells94 94) = W0 := ⟨_, rfl⟩
 have HS0 := (show Hid (SecS w W0 s e c l []) from by
  rw [← hW0]
  have h2 := Blk.new (w.alloc (.cells #[.int .i64 s, .int .i64 e, .int .i64 c, .int .i64 l] 28)) Tryd.zeroCells94 94
  have h3 := Blk.new ((w.alloc (.cells #[.int .i64 s, .int .i64 e, .int .i64 c, .int .i64 l] 28)).alloc (.cells Tryd.zeroCells94 94)) Tryd.zeroCells94 94
  rw [World.size_alloc] at h2
  rw [World.size_alloc, World.size_alloc] at h3
  rw [zeroSec] at h2 h3
  have k1 : Same w (w.alloc (.cells #[.int .i64 s, .int .i64 e, .int .i64 c, .int .i64 l] 28)) := (Kept.refl _ _).alloc _
  refine ⟨((Blk.new w #[.int .i64 s, .int .i64 e, .int .i64 c, .int .i64 l] 28).same ((Kept.refl _ _).alloc _)).same ((Kept.refl _ _).alloc _), by rw [cont_nil]; exact h3, h2.same ((Kept.refl _ _).alloc _), (k1.alloc _).alloc _, by simp [World.size_alloc]⟩)
 have hcp := run_copy_string (P := Tryd.prog) W0 22 9 3 5 (w.heap.size + 1 + 1) 0 512 512 { data := #[104, 101, 97, 112] } Tryd.underlying22 size8 (by decide)
  (fun j hj => by rw [HS0.out.arr.cell, List.getElem?_eq_getElem (by rw [vals_length, cont_length _ _ (by simp), hr512]; have : j < 4 := hj; omega)]; rfl) (fun j _ => HS0.out.arr.frozen _)
 obtain ⟨w1, hw1⟩ : ∃ w1, W0.setCells (w.heap.size + 1 + 1) 0 (vals .u8 hp4) = w1 := ⟨_, rfl⟩
 have hcp : (Builtin.copy_ #[22, 9] 3 #[.slice (some ⟨w.heap.size + 1 + 1, 0, none⟩) 512 512, .string { data := #[104, 101, 97, 112] }]).run Tryd.prog W0 = .ok (.int .i64 4) w1 := by rw [← hw1]; exact hcp
 have HE1 := (show Hid (SecS w w1 s e c l ([] ++ hp4)) from by
  have hb := HS0.out.arr.setCells (vals .u8 hp4) 0 (by rw [vals_length, vals_length, cont_length _ _ (by simp), hr512]; decide)
  have hk := Kept.setCells (R := fun b => b = w.heap.size + 1 + 1) (a := W0) (B := w.heap.size + 1 + 1) (.inr rfl) (vals .u8 hp4) 0 (Kept.refl _ _)
  rw [hw1] at hb hk
  exact HS0.out.next hk (Blk.more 0 hp4 hb rfl (by rw [hr512]; decide)))
 clear hw1 HS0
 rw [← hW0] at hcp
 clear hW0
 go_enter Tryd.func59, Tryd.ntmps59
 go_wp2_with fail
 clear hcp
 have hE := HE1.out.on (Kept.refl _ _).drew
 have hS : (fun wx : World => wx.cell? ⟨w.heap.size, 0, none⟩ = some (.int .i64 s)) w1.drew := by exact hE.box.cell 0
 refine wp_region_V (fun wx : World => wx.cell? ⟨w.heap.size, 0, none⟩ = some (.int .i64 s)) 99 4 rfl (by kernel_rfl) ?_
 refine tk 0 6 hS ?_
 refine tk 1 7 hS ?_
 refine tk 2 8 hS ?_
 refine wpAnyV_one (i := 3) (by kernel_rfl) rfl (fun K hK => ?_)
 go_simp
 have hc := write_sec 4 8 508 s hE.arr (by simp [hp4, lows_length]) (by rw [hr512]; decide) hr512 (by omega) (by omega)
 with_reducible refine hc.mono ?_
 rintro ex w2 ⟨rfl, hb, hk⟩
 have HE2 := (show Hid (SecS w w2 s e c l ([] ++ hp4 ++ lows s 8)) from hE.next hk hb)
 have hS2 : (fun wx : World => wx.cell? ⟨w.heap.size, 0, none⟩ = some (.int .i64 s)) w2 := HE2.out.box.cell 0
 clear hb hk hE hc hS
 refine hK.out _ _ (fun _ => hS2) ?_
 clear hK K hS2 HE1
 refine wpAnyV_done (by kernel_rfl) ?_
 try simp only [Act.put, sA, s0, sS]
 go_wp2_with fail
 have hE := HE2.out.on (Kept.refl _ _).drew
 have hS : (fun wx : World => wx.cell? ⟨w.heap.size, 1, none⟩ = some (.int .i64 e)) w2.drew := by exact hE.box.cell 1
 refine wp_region_V (fun wx : World => wx.cell? ⟨w.heap.size, 1, none⟩ = some (.int .i64 e)) 99 4 rfl (by kernel_rfl) ?_
 refine tk 0 10 hS ?_
 refine tk 1 11 hS ?_
 refine tk 2 12 hS ?_
 refine wpAnyV_one (i := 3) (by kernel_rfl) rfl (fun K hK => ?_)
 go_simp
 have hc := write_sec 12 4 500 e hE.arr (by simp [hp4, lows_length]) (by rw [hr512]; decide) hr512 (by omega) (by omega)
 with_reducible refine hc.mono ?_
 rintro ex w3 ⟨rfl, hb, hk⟩
 have HE3 := (show Hid (SecS w w3 s e c l ([] ++ hp4 ++ lows s 8 ++ lows e 4)) from hE.next hk hb)
 have hS2 : (fun wx : World => wx.cell? ⟨w.heap.size, 1, none⟩ = some (.int .i64 e)) w3 := HE3.out.box.cell 1
 clear hb hk hE hc hS
 refine hK.out _ _ (fun _ => hS2) ?_
 clear hK K hS2 HE2
 refine wpAnyV_done (by kernel_rfl) ?_
 try simp only [Act.put, sA, s0, sS]
 go_wp2_with fail
 have hE := HE3.out.on (Kept.refl _ _).drew
 have hS : (fun wx : World => wx.cell? ⟨w.heap.size, 2, none⟩ = some (.int .i64 c)) w3.drew := by exact hE.box.cell 2
 refine wp_region_V (fun wx : World => wx.cell? ⟨w.heap.size, 2, none⟩ = some (.int .i64 c)) 99 4 rfl (by kernel_rfl) ?_
 refine tk 0 14 hS ?_
 refine tk 1 15 hS ?_
 refine tk 2 16 hS ?_
 refine wpAnyV_one (i := 3) (by kernel_rfl) rfl (fun K hK => ?_)
 go_simp
 have hc := write_sec 16 8 496 c hE.arr (by simp [hp4, lows_length]) (by rw [hr512]; decide) hr512 (by omega) (by omega)
 with_reducible refine hc.mono ?_
 rintro ex w4 ⟨rfl, hb, hk⟩
 have HE4 := (show Hid (SecS w w4 s e c l ([] ++ hp4 ++ lows s 8 ++ lows e 4 ++ lows c 8)) from hE.next hk hb)
 have hS2 : (fun wx : World => wx.cell? ⟨w.heap.size, 2, none⟩ = some (.int .i64 c)) w4 := HE4.out.box.cell 2
 clear hb hk hE hc hS
 refine hK.out _ _ (fun _ => hS2) ?_
 clear hK K hS2 HE3
 refine wpAnyV_done (by kernel_rfl) ?_
 try simp only [Act.put, sA, s0, sS]
 go_wp2_with fail
 have hE := HE4.out.on (Kept.refl _ _).drew
 have hS : (fun wx : World => wx.cell? ⟨w.heap.size, 3, none⟩ = some (.int .i64 l)) w4.drew := by exact hE.box.cell 3
 refine wp_region_V (fun wx : World => wx.cell? ⟨w.heap.size, 3, none⟩ = some (.int .i64 l)) 99 4 rfl (by kernel_rfl) ?_
 refine tk 0 18 hS ?_
 refine tk 1 19 hS ?_
 refine tk 2 20 hS ?_
 refine wpAnyV_one (i := 3) (by kernel_rfl) rfl (fun K hK => ?_)
 go_simp
 have hc := write_sec 24 8 488 l hE.arr (by simp [hp4, lows_length]) (by rw [hr512]; decide) hr512 (by omega) (by omega)
 with_reducible refine hc.mono ?_
 rintro ex w5 ⟨rfl, hb, hk⟩
 have HE5 := (show Hid (SecS w w5 s e c l ([] ++ hp4 ++ lows s 8 ++ lows e 4 ++ lows c 8 ++ lows l 8)) from hE.next hk hb)
 have hS2 : (fun wx : World => wx.cell? ⟨w.heap.size, 3, none⟩ = some (.int .i64 l)) w5 := HE5.out.box.cell 3
 clear hb hk hE hc hS
 refine hK.out _ _ (fun _ => hS2) ?_
 clear hK K hS2 HE4
 refine wpAnyV_done (by kernel_rfl) ?_
 try simp only [Act.put, sA, s0, sS]
 go_wp2_with fail
 have hE0 := HE5.out
 rw [show [] ++ hp4 ++ lows s 8 ++ lows e 4 ++ lows c 8 ++ lows l 8 = mH s e c l from rfl] at hE0
 have HE := (show Hid (SecS w w5 s e c l (mH s e c l)) from hE0)
 clear hE0 HE5
 have hE := HE.out.on (Kept.refl _ _).drew
 have hS : (fun wx : World => True) w5.drew := by trivial
 refine wp_region_V (fun wx : World => True) 99 4 rfl (by kernel_rfl) ?_
 refine tk 0 22 hS ?_
 refine tk 1 23 hS ?_
 refine wpAnyV_one (i := 2) (by kernel_rfl) rfl (fun K hK => ?_)
 go_simp
 have hrd : Rd .u8 w5.drew (.slice (some ⟨w.heap.size + 1 + 1, 0, none⟩) 32 512) (mH s e c l) := by
  have h := Blk.rd hE.arr 0 32 512 (by rw [cont_length _ _ (by rw [mH_length, hr512]; decide), hr512]; decide) (by decide) (by rw [cont_length _ _ (by rw [mH_length, hr512]; decide), hr512]; decide)
  rw [show ((cont (mH s e c l) (List.replicate 512 0)).drop 0).take 32 = mH s e c l from by rw [List.drop_zero]; unfold cont; rw [List.take_append_of_le_length (by rw [mH_length]; decide), List.take_of_length_le (by rw [mH_length]; decide)]] at h
  exact h
 have hc := implCrc_any _ _ _ (mH_isB s e c l) (by rw [mH_length]; decide) hrd
 with_reducible refine hc.mono ?_
 rintro ex w6 ⟨rfl, hk⟩
 have HE6 := (show Hid (SecS w w6 s e c l (mH s e c l)) from hE.on hk)
 clear hk hE hc hrd
 refine hK.out _ _ (fun _ => trivial) ?_
 clear hK K
 try simp only [Act.put, sA, s0, sS]
 refine wpAnyV_one (i := 3) (by kernel_rfl) rfl (fun K hK => ?_)
 go_simp
 have hq := crcOn_le 0 (mH s e c l) (by decide) (by decide) (mH_isB s e c l)
 have hc := write_sec 32 4 480 (crcOn 0 (mH s e c l)) HE6.out.arr (by rw [mH_length]) (by rw [hr512]; decide) hr512 hq.1 (by omega)
 with_reducible refine hc.mono ?_
 rintro ex w7 ⟨rfl, hb, hk⟩
 have hE7 := HE6.out.next hk hb
 rw [show (SecS w w7 s e c l (mH s e c l ++ lows (crcOn 0 (mH s e c l)) 4)) = SecS w w7 s e c l (mH s e c l ++ lows (crcOn 0 (mH s e c l)) 4) from rfl] at hE7
 have hb7 := hE7.arr
 rw [cont_mB] at hb7
 have hr7 := hE7.res
 have hk7 := hE7.same
 have hz7 := hE7.sz
 clear hb hk hE7 hc HE6
 refine hK.out _ _ (fun _ => trivial) ?_
 clear hK K hS HE
 refine wpAnyV_done (by kernel_rfl) ?_
 try simp only [Act.put, sA, s0, sS]
 have hlen : (vals .u8 (mB s e c l)).length = 512 := by rw [vals_length, mB_length]
 obtain ⟨cs, hcs⟩ : ∃ cs : List Value, vals .u8 (mB s e c l) = cs := ⟨_, rfl⟩
 have HONE := (show Hid (cs.toArray.all (·.oneCell') = true) from by rw [← hcs]; exact all_oneCell_toArray vals_one)
 have HRG := (show Hid (w7.rangeAt (w.heap.size + 1 + 1) 0 cs) from by rw [← hcs]; exact hb7.rangeAll)
 have HI := (show Hid ((Tryd.prog.info? 94).map (·.size) = some cs.length) from by rw [← hcs, hlen]; exact sec_info)
 have HI2 := (show Hid ((Tryd.prog.info? 94).map (·.size) = some cs.toArray.size) from by rw [List.size_toArray]; exact HI.out)
 have HT := (show Hid (w7.there (w.heap.size + 1) 0 cs.toArray.size) from hr7.there 0 _ (by rw [List.size_toArray, ← hcs, hlen, vals_length, hr512]; decide))
 have HB := (show Hid (Blk (w7.setCells (w.heap.size + 1) 0 cs) (w.heap.size + 1) 94 cs) from by
  have h := hr7.setCells cs 0 (by rw [← hcs, hlen, vals_length, hr512]; decide)
  rwa [lay_all _ _ (by rw [← hcs, hlen, vals_length, hr512])] at h)
 have HKE := (show Hid (Same w (w7.setCells (w.heap.size + 1) 0 cs)) from Kept.setCells (.inl (Nat.le_succ _)) cs 0 hk7)
 have HCS := (show Hid (vals .u8 (mB s e c l) = cs) from hcs)
 clear hcs hlen hb7 hr7
 go_wp2_with (first | (refine wpList_load_mid rfl 94 _ rfl (w.heap.size + 1 + 1) 0 rfl cs _ HRG.out Tryd.underlying94 rfl HI.out ?_) | (refine wpList_store_mid rfl 94 _ _ rfl (w.heap.size + 1) 0 cs.toArray rfl rfl HT.out HI2.out HONE.out ?_))
 have HRG2 := HB.out.rangeAll
 have hlv := run_loadVar_mid (P := Tryd.prog) _ (w.heap.size + 1) 0 94 cs _ HRG2 Tryd.underlying94 rfl HI.out
 refine bodyPost_ret (v := .agg cs.toArray) ?_ rfl ?_
 ·try simp only [Act.put, List.setIfInBounds_toArray, List.set_cons_zero, List.set_cons_succ]
  simp [results, Tryd.results59, asAddr, hlv]
 ·rw [HCS.out]
  exact ⟨rfl, HKE.out⟩
theorem encM_yes {s e c l : Int} (h : mF s e c l = 0) : encM s e c l = mB s e c l := if_pos h
theorem encM_no {s e c l : Int} (h : mF s e c l ≠ 0) : encM s e c l = [] := if_neg h
theorem errV_no {a0 a1 a2 : Addr} {s e c l : Int} (h : mF s e c l ≠ 0) : ∃ a, errV a0 a1 a2 (mF s e c l) = .iface 179 (.pointer (some a)) := by
 rcases mF_cases s e c l with h0 | h0 | h0 | h0
 ·exact absurd h0 h
 ·rw [h0]; exact ⟨a0, rfl⟩
 ·rw [h0]; exact ⟨a1, rfl⟩
 ·rw [h0]; exact ⟨a2, rfl⟩
theorem implEM_any (s e c l : Int) (a0 a1 a2 : Addr) (w : World) (hE : Errs w a0 a1 a2) :
  Calls Tryd.prog 26 #[.agg #[.int .i64 s, .int .i64 e, .int .i64 c, .int .i64 l]] w fun ex w' => ∃ a c', ex = .returned (.slice a (encM s e c l).length c') ∧ (∀ b, (Value.slice a (encM s e c l).length c').ownBlock = some b → w.heap.size ≤ b) ∧
   Own 0 94 .u8 w' (.slice a (encM s e c l).length c') (encM s e c l) ∧ Same w w' := by
 have HK0 := hid (sameA w [.int .i64 s, .int .i64 e, .int .i64 c, .int .i64 l] 28)
 have k1 := wrongMaster_any s e c l a0 a1 a2 _ (hE.same HK0.out)
 clear hE
 have b0 := Blk.new w #[.int .i64 s, .int .i64 e, .int .i64 c, .int .i64 l] 28
 by_cases hg : mF s e c l = 0
 ·rw [hg, show errV a0 a1 a2 0 = .nilIface from rfl] at k1
  rw [encM_yes hg, mB_length]
  have k2 := fun wx => masterSector_any s e c l wx hg
  have hsz : (vals .u8 (mB s e c l)).toArray.size = 512 := by rw [List.size_toArray, vals_length, mB_length]
  obtain ⟨cs, hcs⟩ : ∃ cs : Array Value, (vals .u8 (mB s e c l)).toArray = cs := ⟨_, rfl⟩
  have HCS := (show Hid ((vals .u8 (mB s e c l)).toArray = cs) from hcs)
  have HONE := (show Hid (cs.all (·.oneCell') = true) from by rw [← hcs]; exact all_oneCell_toArray vals_one)
  rw [hcs] at k2 hsz
  clear hcs hg
  go_enter Tryd.func26, Tryd.ntmps26
  go_wp2_with (first
   | (go_at_call 58; (with_reducible refine k1.mono ?_); rintro ex w1 ⟨rfl, hk1⟩; have b1 := b0.same hk1; obtain ⟨d0, d1, d2, d3⟩ := b1.all4; have HK1 := (show Hid (Same w w1) from HK0.out.trans hk1); clear hk1)
   | (go_at_call 59; (with_reducible refine (k2 _).mono ?_); rintro ex w2 ⟨rfl, hk2⟩; have HK2 := (show Hid (Same w w2) from HK1.out.trans hk2); clear hk2; have hst := run_storeCells_new (P := Tryd.prog) w2 94 Tryd.zeroCells94 cs (by rw [hsz]; exact sec_info) (by rw [hsz]; exact Tryd.zeroCells94_size) HONE.out))
  go_ret
  have hb := Blk.new w2 cs 94
  rw [← HCS.out] at hb
  refine ⟨_, _, rfl, ?_, ?_, HK2.out.alloc _⟩
  ·intro b hb'
   have : w2.heap.size = b := by simpa [Value.ownBlock] using hb'
   have := HK2.out.size
   omega
  ·rw [← HCS.out]
   have h2 : Blk (w2.alloc (.cells (vals .u8 (mB s e c l)).toArray 94)) w2.heap.size 94 (vals .u8 (mB s e c l)) := hb
   have h3 := Blk.own h2 (by rw [mB_length]; decide)
   rwa [mB_length] at h3
 ·obtain ⟨a, ha⟩ := errV_no (a0 := a0) (a1 := a1) (a2 := a2) hg
  rw [ha] at k1
  rw [encM_no hg]
  go_enter Tryd.func26, Tryd.ntmps26
  go_wp2_with (first
   | (go_at_call 58; (with_reducible refine k1.mono ?_); rintro ex w1 ⟨rfl, hk1⟩; have HK1 := (show Hid (Same w w1) from HK0.out.trans hk1); clear hk1))
  go_ret
  exact ⟨none, 0, rfl, fun b hb => by simp [Value.ownBlock] at hb, Own.nil _ _ _ _, HK1.out⟩
theorem l1Copy_any (v : Value) (bs : List Int) (w : World) (hn : bs.length ≤ 1099511627776) (hv : Rd .u8 w v bs) :
  Calls Tryd.prog 87 #[v] w fun e w' => ∃ a n c, e = .returned (.slice a n c) ∧ Own 0 5 .u8 w' (.slice a n c) bs ∧ (∀ b, (Value.slice a n c).ownBlock = some b → w.heap.size ≤ b) ∧ Same w w' := by
 obtain ⟨i0, hi, hz0, hz1, hz2⟩ := info_parts Tryd.infoByte'
 rcases hv.2 with ⟨rfl, a, c, rfl, hac⟩ | ⟨b, off, c, rfl, _, hc⟩
 ·cases a with
  | none =>
   obtain rfl : c = 0 := hac rfl
   clear hv hn hac
   go_enter Tryd.func87, Tryd.ntmps87
   go_wp2_with (at_builtin; refine wpList_append_own_none rfl (.tmp 3) (.tmp 4) 22 rfl w.heap.size 5 i0 1 Tryd.underlying22 hi _ 0 [] rfl (World.ownsRow_made w #[] 0 (Nat.le_refl _) (by simp) (by simp)) rfl ?_)
   go_ret
   exact ⟨_, _, _, rfl, (World.ownsRow_made w #[] 0 (Nat.zero_le _) (by simp) (by simp)), fun b hb => by simp [Value.ownBlock] at hb; omega, (Kept.refl _ _).alloc _⟩
  | some ad =>
   clear hv hn hac
   go_enter Tryd.func87, Tryd.ntmps87
   go_wp2_with (at_builtin; refine wpList_append_own _ rfl (.tmp 3) (.tmp 4) 22 rfl w.heap.size 5 i0 (.int .u8 0) 1 1 Tryd.underlying22 hi hz0 hz1 hz2 rfl (by decide) (.slice (some ⟨w.heap.size, 0, none⟩) 0 0) 0 [] rfl (World.ownsRow_made w #[] 0 (Nat.le_refl _) (by simp) (by simp)) ad 0 c [] rfl rfl (fun j u h => by simp at h) (fun u h => by simp at h) (by simp) (by simp) (by simp) ?_; intro v' w1 hown1 hgrow1 _; have HF := (show Hid (Own w.heap.size 5 .u8 w1 v' []) from hown1); have HK : Hid (Same w w1) := ((Kept.refl _ _).alloc _).grown hgrow1 (fun k e => .inl (by simp [Value.ownBlock] at e; omega)); obtain ⟨aa, na, ca, rfl⟩ := slice_of_own HF.out; clear hown1 hgrow1)
   go_ret
   exact ⟨_, _, _, rfl, HF.out.mono (fun b _ => Nat.zero_le b), fun b hb => (HF.out.lt b hb).1, HK.out⟩
 ·have HC : Hid (∀ i, i < bs.length → (w.alloc (.cells #[] 5)).cell? ⟨b, off + i, none⟩ = some (.int .u8 (bs.getD i 0))) := fun i hi => ((Kept.refl (fun _ => False) w).alloc _).cellOf (hc i hi) id
  clear hv hc
  go_enter Tryd.func87, Tryd.ntmps87
  go_wp2_with (at_builtin; refine wpList_append_own _ rfl (.tmp 3) (.tmp 4) 22 rfl w.heap.size 5 i0 (.int .u8 0) 1 1 Tryd.underlying22 hi hz0 hz1 hz2 rfl (by decide) (.slice (some ⟨w.heap.size, 0, none⟩) 0 0) 0 [] rfl (World.ownsRow_made w #[] 0 (Nat.le_refl _) (by simp) (by simp)) ⟨b, off, none⟩ bs.length c (vals .u8 bs) rfl (by simp [vals_length]) (news_of HC.out) vals_one (by unfold maxLen; omega) (by omega) (by simp) ?_; intro v' w1 hown1 hgrow1 _; have HF := (show Hid (Own w.heap.size 5 .u8 w1 v' bs) from (by simpa [Own, Hid] using hown1)); have HK : Hid (Same w w1) := ((Kept.refl _ _).alloc _).grown hgrow1 (fun k e => .inl (by simp [Value.ownBlock] at e; omega)); obtain ⟨aa, na, ca, rfl⟩ := slice_of_own HF.out; clear hown1 hgrow1)
  go_ret
  exact ⟨_, _, _, rfl, HF.out.mono (fun b _ => Nat.zero_le b), fun b hb => (HF.out.lt b hb).1, HK.out⟩
theorem clone_any (v : Value) (bs : List Int) (w : World) (hn : bs.length ≤ 1099511627776) (hv : Rd .u8 w v bs) :
  Calls Tryd.prog 68 #[v] w fun e w' => ∃ a n c, e = .returned (.slice a n c) ∧ Own 0 5 .u8 w' (.slice a n c) bs ∧ (∀ b, (Value.slice a n c).ownBlock = some b → w.heap.size ≤ b) ∧ Same w w' := by
 obtain ⟨i0, hi, hz0, hz1, hz2⟩ := info_parts Tryd.infoByte'
 have hnil := fun (wx : World) (a : Option Addr) (n c : Nat) => Lib.run_eql_slice_nil (P := Tryd.prog) wx 22 5 a n c 0 0 Tryd.underlying22
 rcases hv.2 with ⟨rfl, a, c, rfl, hac⟩ | ⟨b, off, c, rfl, _, hc⟩
 ·cases a with
  | none =>
   obtain rfl : c = 0 := hac rfl
   clear hv hn hac
   go_enter Tryd.func68, Tryd.ntmps68
   go_wp2
   go_ret
   exact ⟨_, _, _, rfl, Own.nil _ _ _ _, fun b hb => by simp [Value.ownBlock] at hb, Kept.refl _ _⟩
  | some ad =>
   clear hv hn hac
   go_enter Tryd.func68, Tryd.ntmps68
   go_wp2_with (at_builtin; refine wpList_append_own _ rfl (.tmp 5) (.tmp 6) 22 rfl w.heap.size 5 i0 (.int .u8 0) 1 1 Tryd.underlying22 hi hz0 hz1 hz2 rfl (by decide) (.slice (some ⟨w.heap.size, 0, none⟩) 0 0) 0 [] rfl (World.ownsRow_made w #[] 0 (Nat.le_refl _) (by simp) (by simp)) ad 0 c [] rfl rfl (fun j u h => by simp at h) (fun u h => by simp at h) (by simp) (by simp) (by simp) ?_; intro v' w1 hown1 hgrow1 _; have HF := (show Hid (Own w.heap.size 5 .u8 w1 v' []) from hown1); have HK : Hid (Same w w1) := ((Kept.refl _ _).alloc _).grown hgrow1 (fun k e => .inl (by simp [Value.ownBlock] at e; omega)); obtain ⟨aa, na, ca, rfl⟩ := slice_of_own HF.out; clear hown1 hgrow1)
   go_ret
   exact ⟨_, _, _, rfl, HF.out.mono (fun b _ => Nat.zero_le b), fun b hb => (HF.out.lt b hb).1, HK.out⟩
 ·have HC : Hid (∀ i, i < bs.length → (w.alloc (.cells #[] 5)).cell? ⟨b, off + i, none⟩ = some (.int .u8 (bs.getD i 0))) := fun i hi => ((Kept.refl (fun _ => False) w).alloc _).cellOf (hc i hi) id
  clear hv hc
  go_enter Tryd.func68, Tryd.ntmps68
  go_wp2_with (at_builtin; refine wpList_append_own _ rfl (.tmp 5) (.tmp 6) 22 rfl w.heap.size 5 i0 (.int .u8 0) 1 1 Tryd.underlying22 hi hz0 hz1 hz2 rfl (by decide) (.slice (some ⟨w.heap.size, 0, none⟩) 0 0) 0 [] rfl (World.ownsRow_made w #[] 0 (Nat.le_refl _) (by simp) (by simp)) ⟨b, off, none⟩ bs.length c (vals .u8 bs) rfl (by simp [vals_length]) (news_of HC.out) vals_one (by unfold maxLen; omega) (by omega) (by simp) ?_; intro v' w1 hown1 hgrow1 _; have HF := (show Hid (Own w.heap.size 5 .u8 w1 v' bs) from (by simpa [Own, Hid] using hown1)); have HK : Hid (Same w w1) := ((Kept.refl _ _).alloc _).grown hgrow1 (fun k e => .inl (by simp [Value.ownBlock] at e; omega)); obtain ⟨aa, na, ca, rfl⟩ := slice_of_own HF.out; clear hown1 hgrow1)
  go_ret
  exact ⟨_, _, _, rfl, HF.out.mono (fun b _ => Nat.zero_le b), fun b hb => (HF.out.lt b hb).1, HK.out⟩
structure Grew (w : World) (v : Value) (w' : World) (v' : Value) : Prop where
 kept : Kept (fun b => v.ownBlock = some b) w w'
 own : ∀ b, v'.ownBlock = some b → v.ownBlock = some b ∨ w.heap.size ≤ b
theorem Grew.trans {w w1 w2 : World} {v v1 v2 : Value} (h : Grew w v w1 v1) (k : Grew w1 v1 w2 v2) : Grew w v w2 v2 := by
 refine ⟨h.kept.next k.kept (fun i hi e => (h.own i e).resolve_right (by omega)), fun b hb => ?_⟩
 rcases k.own b hb with h1 | h1
 ·exact h.own b h1
 ·have := h.kept.size
  exact .inr (by omega)
theorem Grew.of_same {w w' : World} {v : Value} (h : Same w w') : Grew w v w' v := ⟨h.mono (fun _ _ e => absurd e id), fun b hb => .inl hb⟩
theorem Grew.refl (w : World) (v : Value) : Grew w v w v := Grew.of_same (Kept.refl _ _)
theorem Grew.size {w w' : World} {v v' : Value} (h : Grew w v w' v') : w.heap.size ≤ w'.heap.size := h.kept.size
theorem Grew.same {w0 w w' : World} {v v' : Value} (h : Grew w v w' v') (h0 : Same w0 w) (hv : ∀ b, v.ownBlock = some b → w0.heap.size ≤ b) : Same w0 w' :=
 h0.next h.kept (fun i hi e => by have := hv i e; omega)
theorem Grew.fresh {w0 w w' : World} {v v' : Value} (h : Grew w v w' v') (h0 : Same w0 w) (hv : ∀ b, v.ownBlock = some b → w0.heap.size ≤ b) : ∀ b, v'.ownBlock = some b → w0.heap.size ≤ b := fun b hb => by
 rcases h.own b hb with h1 | h1
 ·exact hv b h1
 ·have := h0.size
  omega
theorem run_app {ty : TypeId} {w : World} {v x : Value} {bs ys : List Int} (ho : Own 0 5 .u8 w v bs) (hx : Rd .u8 w x ys) (hl : bs.length + ys.length ≤ 1099511627776) :
  ∃ a n c w', (Builtin.append_ #[22, 22] ty #[v, x]).run Tryd.prog w = .ok (.slice a n c) w' ∧ Own 0 5 .u8 w' (.slice a n c) (bs ++ ys) ∧ Grew w v w' (.slice a n c) := by
 obtain ⟨i0, hi, hz0, hz1, hz2⟩ := info_parts Tryd.infoByte'
 have some_case : ∀ (ad : Addr) (c : Nat), (∀ j u, (vals .u8 ys)[j]? = some u → w.cell? (ad.add j) = some u) → ∃ a n c' w', (Builtin.append_ #[22, 22] ty #[v, .slice (some ad) ys.length c]).run Tryd.prog w = .ok (.slice a n c') w' ∧ Own 0 5 .u8 w' (.slice a n c') (bs ++ ys) ∧ Grew w v w' (.slice a n c') := fun ad c hn => by
  obtain ⟨v', w', hr, h2, h3, _, h5⟩ := run_append_own_at (P := Tryd.prog) w 0 22 ty 5 i0 (.int .u8 0) 1 1 Tryd.underlying22 hi hz0 hz1 hz2 rfl (by decide) v bs.length (vals .u8 bs) ho ad ys.length c (vals .u8 ys) (by simp [vals_length]) hn vals_one (by unfold maxLen; omega) (by omega) (Nat.zero_le _)
  have h2' : Own 0 5 .u8 w' v' (bs ++ ys) := by unfold Own; simpa [vals] using h2
  obtain ⟨a, n, c', rfl⟩ := slice_of_own h2'
  refine ⟨a, n, c', w', hr, h2', Kept.of_grown h3 (fun k e => e), fun b hb => ?_⟩
  rcases h5 with h5 | h5
  ·exact .inl (by rw [← h5]; exact hb)
  ·rw [h5] at hb
   exact .inr (by have := Option.some.inj hb; omega)
 rcases hx.2 with ⟨rfl, a, c, rfl, hac⟩ | ⟨b, off, c, rfl, _, hc⟩
 ·cases a with
  | none =>
   obtain rfl : c = 0 := hac rfl
   have hr := run_append_owned_none (P := Tryd.prog) (w := w) 0 22 ty 5 i0 1 Tryd.underlying22 hi v bs.length (vals .u8 bs) ho
   obtain ⟨a, n, c', rfl⟩ := slice_of_own ho
   exact ⟨a, n, c', w, hr, by rw [List.append_nil]; exact ho, Grew.refl _ _⟩
  | some ad => exact some_case ad c (fun j u h => by simp [vals] at h)
 ·exact some_case ⟨b, off, none⟩ c (news_of hc)
theorem wp_app {w : World} {o : Oper} {a : Act} {K : Act → World → Prop} {Q : Exit → Act → World → Prop} (s x : Operand)
  (ho : o.op = .call { callee := .builtin .append, args := #[s, x], argTypes := #[22, 22] })
  (v xv : Value) (bs ys : List Int) (hs : a.eval s = v) (hx : a.eval x = xv) (hown : Own 0 5 .u8 w v bs) (hrd : Rd .u8 w xv ys) (hl : bs.length + ys.length ≤ 1099511627776)
  (h : ∀ a' n' c' w', Own 0 5 .u8 w' (.slice a' n' c') (bs ++ ys) → Grew w v w' (.slice a' n' c') → K (a.put o.dst (.slice a' n' c')) w') : o.wp Tryd.prog a w K Q := by
 obtain ⟨a', n', c', w', hr, h2, h3⟩ := run_app (ty := o.type) hown hrd hl
 unfold Oper.wp execOp
 simp only [ho, resolve, invoke, builtin, Sem.run_bind, Sem.run_pure, Result.andThen_ok, List.map_toArray, List.map_cons, List.map_nil, hs, hx, hr]
 exact h a' n' c' w' h2 h3
theorem wpList_app {w : World} {ops : Array Oper} {rest : List Oper} {o : Oper} {a : Act} {Q : Exit → Act → World → Prop} (hgd : o.guard = none) (s x : Operand)
  (ho : o.op = .call { callee := .builtin .append, args := #[s, x], argTypes := #[22, 22] })
  (v xv : Value) (bs ys : List Int) (hs : a.eval s = v) (hx : a.eval x = xv) (hown : Own 0 5 .u8 w v bs) (hrd : Rd .u8 w xv ys) (hl : bs.length + ys.length ≤ 1099511627776)
  (h : ∀ a' n' c' w', Own 0 5 .u8 w' (.slice a' n' c') (bs ++ ys) → Grew w v w' (.slice a' n' c') → wpList Tryd.prog ops Q rest (a.put o.dst (.slice a' n' c')) w') : wpList Tryd.prog ops Q (o :: rest) a w :=
 wpList_plain hgd fun _ hK => wp_app s x ho v xv bs ys hs hx hown hrd hl fun a' n' c' w' h2 h3 => hK _ _ (h a' n' c' w' h2 h3)
theorem l4Put_own (v : Value) (bs : List Int) (x n : Int) (w : World) (hx : IsI x) (hn : IsI n) (hl : bs.length ≤ 1073741824) (ho : Own 0 5 .u8 w v bs) :
  Calls Tryd.prog 56 #[v, .int .i64 x, .int .i64 n] w fun e w' => ∃ aa nn cc, e = .returned (.slice aa nn cc) ∧ Own 0 5 .u8 w' (.slice aa nn cc) (bs ++ numB x n) ∧ Grew w v w' (.slice aa nn cc) := by
 have hP := specPut_any x n w hx hn
 have hnl := numB_length x n
 have HO := (show Hid (Own 0 5 .u8 w v bs) from ho)
 clear ho
 go_enter Tryd.func56, Tryd.ntmps56
 go_wp2_with (first
  | (go_at_call 78; refine hP.mono ?_; rintro e w1 ⟨a1, c1, rfl, hf1, ho1, hk1⟩; have HR1 := (show Hid (Rd .u8 w1 (.slice a1 (numB x n).length c1) (numB x n)) from ho1.rd); have HK1 := (show Hid (Same w w1) from hk1); clear hf1 ho1 hk1)
  | (at_builtin; refine wpList_app rfl (.tmp 7) (.tmp 10) rfl v (.slice a1 (numB x n).length c1) bs (numB x n) rfl rfl (HO.out.same HK1.out) HR1.out (by omega) ?_; intro a2 n2 c2 w2 hown2 hk2; have HF := (show Hid (Own 0 5 .u8 w2 (.slice a2 n2 c2) (bs ++ numB x n)) from hown2); have HK := (show Hid (Grew w v w2 (.slice a2 n2 c2)) from (Grew.of_same HK1.out).trans hk2); clear hown2 hk2))
 go_ret
 exact ⟨a2, n2, c2, rfl, HF.out, HK.out⟩
theorem zeroCells_one (z : Value) (n : Nat) : Builtin.zeroCells #[z] n = (List.replicate n z).toArray := by
 unfold Builtin.zeroCells
 apply Array.ext (by simp)
 intro i h1 h2
 simp [Nat.mod_one]
theorem run_app_zeros {ty : TypeId} {w : World} {v : Value} {bs : List Int} (k : Nat) (hk : 0 < k) (ho : Own 0 5 .u8 w v bs) (hl : bs.length + k ≤ 1048576) :
  ∃ a n c w', (Builtin.append_ #[22, 3] ty #[v, .int .i64 k]).run Tryd.prog w = .ok (.slice a n c) w' ∧ Own 0 5 .u8 w' (.slice a n c) (bs ++ List.replicate k 0) ∧ Grew w v w' (.slice a n c) := by
 obtain ⟨i0, hi, hz0, hz1, hz2⟩ := info_parts Tryd.infoByte'
 have grow : ∀ (base : Option Addr) (cap : Nat), v = .slice base bs.length cap → cap < bs.length + k → (Builtin.firstCells i0.size bs.length (.slice base bs.length cap)).run Tryd.prog w.drew = .ok (vals .u8 bs).toArray w.drew →
   ∃ a n c w', (Builtin.append_ #[22, 3] ty #[v, .int .i64 k]).run Tryd.prog w = .ok (.slice a n c) w' ∧ Own 0 5 .u8 w' (.slice a n c) (bs ++ List.replicate k 0) ∧ Grew w v w' (.slice a n c) := by
  rintro base cap rfl hc hold
  have h := Lib.run_append_grow_zeros (P := Tryd.prog) w 22 3 ty 5 i0 (.int .u8 0) .i64 .i64 Tryd.underlying22 Tryd.underlying3 hi hz0 base bs.length cap (vals .u8 bs) hold k hk (by rw [hz1]; decide) hc (by omega) (by rw [hz2]; omega) (by rw [hz2]; have := nextslicecap_le hc; omega)
  have hge := grownCap_ge w (bs.length + k) cap 5
  have hle := grownCap_le_maxLen w (bs.length + k) cap 5 (by unfold maxLen; omega)
  rw [show (Value.int .u8 0).cells = #[.int .u8 0] from rfl, zeroCells_one, zeroCells_one] at h
  refine ⟨_, _, _, _, h, ⟨by simp [vals], .inr ⟨w.heap.size, grownCap w (bs.length + k) cap 5, _, by simp, Nat.zero_le _, heap_alloc_new w.drew _, by simpa using hge, hle, ?_, ?_⟩⟩, ⟨(Kept.refl _ _).drew.alloc _, fun b hb => .inr ?_⟩⟩
  ·simp [vals_length]
   omega
  ·simp only [Nat.mul_one, List.length_append, List.length_replicate]
   rw [List.append_toArray, List.append_toArray, List.toList_toArray, List.toList_toArray, List.take_append_of_le_length (by simp [vals_length]), List.take_of_length_le (by simp [vals_length])]
   simp [vals]
  ·have : w.heap.size = b := by simpa [Value.ownBlock] using hb
   omega
 rcases ho.2 with ⟨rfl, hn⟩ | ⟨g, cap, cur, rfl, _, hb, hnc, hcm, hsz, htk⟩
 ·obtain rfl : bs = [] := List.length_eq_zero_iff.1 hn
  exact grow none 0 rfl (by simp; exact hk) (by rw [hz1]; exact run_firstCells_none _ _ _ _ _)
 ·simp only [Nat.mul_one] at hsz htk
  have hcell : ∀ j u, (vals .u8 bs)[j]? = some u → w.cell? ((⟨g, 0, none⟩ : Addr).add j) = some u := fun j u hu => by
   have hB : Blk w g 5 cur.toList := by unfold Blk; rw [Array.toArray_toList]; exact hb
   have hj : j < bs.length := by have := (List.getElem?_eq_some_iff.1 hu).1; rwa [vals_length] at this
   rw [addr_add, Nat.zero_add, hB.cell, ← hu, ← htk, List.getElem?_take_of_lt hj]
  by_cases hc : cap < bs.length + k
  ·exact grow _ cap rfl hc (by rw [hz1]; exact run_firstCells_some (P := Tryd.prog) (w := w.drew) 1 bs.length ⟨g, 0, none⟩ bs.length cap (vals .u8 bs) (by simp [vals_length]) hcell)
  ·have hB : Blk w g 5 cur.toList := by unfold Blk; rw [Array.toArray_toList]; exact hb
   have hlen : cur.toList.length = cap := by rw [Array.length_toList]; exact hsz
   have hst := hB.stores (P := Tryd.prog) bs.length (List.replicate k (.int .u8 0)) (by simp [hlen]; omega) (fun u hu => by rw [List.eq_of_mem_replicate hu]; rfl)
   have hB2 := hB.setCells (List.replicate k (.int .u8 0)) bs.length (by simp [hlen]; omega)
   refine ⟨some ⟨g, 0, none⟩, bs.length + k, cap, w.setCells g bs.length (List.replicate k (.int .u8 0)), ?_, ?_, ⟨Kept.setCells (R := fun b => (Value.slice (some ⟨g, 0, none⟩) bs.length cap).ownBlock = some b) (.inr rfl) _ _ (Kept.refl _ _), fun b hb => .inl hb⟩⟩
   ·have hw : IntKind.i64.wrap (k : Int) = k := by rw [IntKind.wrap_i64]; omega
    have hneg : ¬ ((k : Int) < 0) := by omega
    have hk0 : ¬ k = 0 := by omega
    have h48i : ¬ (281474976710656 < (k : Int) * (i0.bytes : Int)) := by rw [hz2]; omega
    have hle : bs.length + k ≤ cap := by omega
    simp [Builtin.append_, run_underlying Tryd.underlying22, run_underlying Tryd.underlying3, Go.sizeOf, typeInfo, zeroValue, hi, hz0, hz1, asInt, asIntOf, hw, hneg, hk0, h48i, hle, zeroCells_one, addr_add, Value.cells, hst]
   ·refine ⟨by simp [vals], .inr ⟨g, cap, _, by simp, Nat.zero_le _, hB2, by simp; omega, hcm, ?_, ?_⟩⟩
    ·rw [List.size_toArray, lay_length _ _ _ (by simp [hlen]; omega), hlen, Nat.mul_one]
    ·simp only [Nat.mul_one, List.length_append, List.length_replicate]
     unfold lay
     rw [← List.append_assoc, List.take_append_of_le_length (by simp [hlen]; omega), htk, List.take_of_length_le (by simp [vals_length])]
     simp [vals]
theorem run_app_full {ty : TypeId} {w : World} {g off g2 off2 c2 : Nat} {bs ys : List Int} (hv : Rd .u8 w (.slice (some ⟨g, off, none⟩) bs.length bs.length) bs) (hx : Rd .u8 w (.slice (some ⟨g2, off2, none⟩) ys.length c2) ys) (h0 : 0 < bs.length) (h1 : 0 < ys.length) (hl : bs.length + ys.length ≤ 1048576) :
  ∃ a n c w', (Builtin.append_ #[22, 22] ty #[.slice (some ⟨g, off, none⟩) bs.length bs.length, .slice (some ⟨g2, off2, none⟩) ys.length c2]).run Tryd.prog w = .ok (.slice a n c) w' ∧ Own 0 5 .u8 w' (.slice a n c) (bs ++ ys) ∧ (∀ b, (Value.slice a n c).ownBlock = some b → w.heap.size ≤ b) ∧ Same w w' := by
 obtain ⟨i0, hi, hz0, hz1, hz2⟩ := info_parts Tryd.infoByte'
 have cells : ∀ {b o c : Nat} {zs : List Int} (h : Rd .u8 w (.slice (some ⟨b, o, none⟩) zs.length c) zs) (hz : 0 < zs.length), ∀ j u, (vals .u8 zs)[j]? = some u → w.cell? ((⟨b, o, none⟩ : Addr).add j) = some u := fun {b o c zs} h hz => by
  rcases h.2 with ⟨rfl, _⟩ | ⟨b', o', c', he, _, hc⟩
  ·simp at hz
  ·injection he with he1
   injection he1 with he1
   injection he1 with e1 e2
   subst e1 e2
   exact news_of hc
 have hold : (Builtin.firstCells i0.size bs.length (.slice (some ⟨g, off, none⟩) bs.length bs.length)).run Tryd.prog w.drew = .ok (vals .u8 bs).toArray w.drew := by rw [hz1]; exact run_firstCells_some (P := Tryd.prog) (w := w.drew) 1 bs.length ⟨g, off, none⟩ bs.length bs.length (vals .u8 bs) (by simp [vals_length]) (cells hv h0)
 have hs := Src.ofSlice (P := Tryd.prog) (w := w) (size := i0.size) Tryd.underlying22 ⟨g2, off2, none⟩ ys.length c2 (vals .u8 ys) (by rw [hz1]; simp [vals_length]) (cells hx h1) vals_one
 have h := run_append_grow_src (P := Tryd.prog) (w := w) 22 22 ty 5 i0 (.int .u8 0) Tryd.underlying22 hi hz0 (some ⟨g, off, none⟩) bs.length bs.length (vals .u8 bs) hold _ ys.length (vals .u8 ys) hs (by omega) (by omega) (by rw [hz2]; have := nextslicecap_le (need := bs.length + ys.length) (old := bs.length) (by omega); omega)
 have hge := grownCap_ge w (bs.length + ys.length) bs.length 5
 have hle := grownCap_le_maxLen w (bs.length + ys.length) bs.length 5 (by unfold maxLen; omega)
 rw [show (Value.int .u8 0).cells = #[.int .u8 0] from rfl, zeroCells_one] at h
 refine ⟨_, _, _, _, h, ⟨by simp [vals], .inr ⟨w.heap.size, grownCap w (bs.length + ys.length) bs.length 5, _, by simp, Nat.zero_le _, heap_alloc_new w.drew _, by simpa using hge, hle, ?_, ?_⟩⟩, fun b hb => ?_, (Kept.refl _ _).drew.alloc _⟩
 ·simp [vals_length]
  omega
 ·simp only [Nat.mul_one, List.length_append]
  rw [List.append_toArray, List.toList_toArray, List.take_append_of_le_length (by simp [vals_length]), List.take_of_length_le (by simp [vals_length])]
  simp [vals]
 ·have : w.heap.size = b := by simpa [Value.ownBlock] using hb
  omega
theorem wpList_app_full {w : World} {ops : Array Oper} {rest : List Oper} {o : Oper} {a : Act} {Q : Exit → Act → World → Prop} (hgd : o.guard = none) (s x : Operand)
  (ho : o.op = .call { callee := .builtin .append, args := #[s, x], argTypes := #[22, 22] })
  {g off g2 off2 c2 : Nat} {bs ys : List Int} (hs : a.eval s = .slice (some ⟨g, off, none⟩) bs.length bs.length) (hx' : a.eval x = .slice (some ⟨g2, off2, none⟩) ys.length c2)
  (hv : Rd .u8 w (.slice (some ⟨g, off, none⟩) bs.length bs.length) bs) (hx : Rd .u8 w (.slice (some ⟨g2, off2, none⟩) ys.length c2) ys) (h0 : 0 < bs.length) (h1 : 0 < ys.length) (hl : bs.length + ys.length ≤ 1048576)
  (h : ∀ a' n' c' w', Own 0 5 .u8 w' (.slice a' n' c') (bs ++ ys) → (∀ b, (Value.slice a' n' c').ownBlock = some b → w.heap.size ≤ b) → Same w w' → wpList Tryd.prog ops Q rest (a.put o.dst (.slice a' n' c')) w') : wpList Tryd.prog ops Q (o :: rest) a w :=
 wpList_plain hgd fun K hK => by
  obtain ⟨a', n', c', w', hr, h2, h3, h4⟩ := run_app_full (ty := o.type) hv hx h0 h1 hl
  unfold Oper.wp execOp
  simp only [ho, resolve, invoke, builtin, Sem.run_bind, Sem.run_pure, Result.andThen_ok, List.map_toArray, List.map_cons, List.map_nil, hs, hx', hr]
  exact hK _ _ (h a' n' c' w' h2 h3 h4)
theorem wpList_app_zeros {w : World} {ops : Array Oper} {rest : List Oper} {o : Oper} {a : Act} {Q : Exit → Act → World → Prop} (hgd : o.guard = none) (s x : Operand)
  (ho : o.op = .call { callee := .builtin .append, args := #[s, x], argTypes := #[22, 3] })
  (v : Value) (bs : List Int) (k : Nat) (hs : a.eval s = v) (hx : a.eval x = .int .i64 k) (hk : 0 < k) (hown : Own 0 5 .u8 w v bs) (hl : bs.length + k ≤ 1048576)
  (h : ∀ a' n' c' w', Own 0 5 .u8 w' (.slice a' n' c') (bs ++ List.replicate k 0) → Grew w v w' (.slice a' n' c') → wpList Tryd.prog ops Q rest (a.put o.dst (.slice a' n' c')) w') : wpList Tryd.prog ops Q (o :: rest) a w :=
 wpList_plain hgd fun K hK => by
  obtain ⟨a', n', c', w', hr, h2, h3⟩ := run_app_zeros (ty := o.type) k hk hown hl
  unfold Oper.wp execOp
  simp only [ho, resolve, invoke, builtin, Sem.run_bind, Sem.run_pure, Result.andThen_ok, List.map_toArray, List.map_cons, List.map_nil, hs, hx, hr]
  exact hK _ _ (h a' n' c' w' h2 h3)
theorem numB8 (x : Int) (h0 : 0 ≤ x) (h1 : x ≤ 9223372036854775807) : numB x 8 = lows x 8 := by
 unfold numB
 rw [if_neg]
 ·rfl
 ·rintro (h | h | h | h)
  ·omega
  ·omega
  ·omega
  ·apply h
   rw [show (8 : Int).toNat = 8 from rfl, show (256 : Int) ^ 8 = 18446744073709551616 from rfl]
   omega
theorem numB4' (x : Int) (h0 : 0 ≤ x) (h1 : x ≤ 4294967295) : numB x 4 = lows x 4 := by
 unfold numB
 rw [if_neg]
 ·rfl
 ·rintro (h | h | h | h)
  ·omega
  ·omega
  ·omega
  ·apply h
   rw [show (4 : Int).toNat = 4 from rfl, show (256 : Int) ^ 4 = 4294967296 from rfl]
   omega
theorem l4Put_first (g : Nat) (bs : List Int) (x n : Int) (w : World) (hx : IsI x) (hn : IsI n) (h0 : 0 < bs.length) (h1 : 0 < (numB x n).length) (hl : bs.length ≤ 1000) (hv : Rd .u8 w (.slice (some ⟨g, 0, none⟩) bs.length bs.length) bs) :
  Calls Tryd.prog 56 #[.slice (some ⟨g, 0, none⟩) bs.length bs.length, .int .i64 x, .int .i64 n] w fun e w' => ∃ aa nn cc, e = .returned (.slice aa nn cc) ∧ Own 0 5 .u8 w' (.slice aa nn cc) (bs ++ numB x n) ∧ (∀ b, (Value.slice aa nn cc).ownBlock = some b → w.heap.size ≤ b) ∧ Same w w' := by
 have hP := specPut_any x n w hx hn
 have hnl := numB_length x n
 have HV := (show Hid (Rd .u8 w (.slice (some ⟨g, 0, none⟩) bs.length bs.length) bs) from hv)
 clear hv
 go_enter Tryd.func56, Tryd.ntmps56
 go_wp2_with (first
  | (go_at_call 78; refine hP.mono ?_; rintro e w1 ⟨a1, c1, rfl, hf1, ho1, hk1⟩; obtain ⟨g1, o1, rfl, _⟩ := rd_some ho1.rd h1; have HR1 := (show Hid (Rd .u8 w1 (.slice (some ⟨g1, o1, none⟩) (numB x n).length c1) (numB x n)) from ho1.rd); have HK1 := (show Hid (Same w w1) from hk1); clear hf1 ho1 hk1)
  | (at_builtin; refine wpList_app_full rfl (.tmp 7) (.tmp 10) rfl rfl rfl (HV.out.same HK1.out) HR1.out h0 h1 (by omega) ?_; intro a2 n2 c2 w2 hown2 hf2 hk2; have HF := (show Hid (Own 0 5 .u8 w2 (.slice a2 n2 c2) (bs ++ numB x n)) from hown2); have HF2 := (show Hid (∀ b, (Value.slice a2 n2 c2).ownBlock = some b → w.heap.size ≤ b) from fun b hb => Nat.le_trans HK1.out.size (hf2 b hb)); have HK := (show Hid (Same w w2) from HK1.out.trans hk2); clear hown2 hk2 hf2))
 go_ret
 exact ⟨a2, n2, c2, rfl, HF.out, HF2.out, HK.out⟩
structure OutS (w wx : World) (s e c l : Int) (v : Value) (A : List Int) : Prop where
 box : Blk wx w.heap.size 28 [.int .i64 s, .int .i64 e, .int .i64 c, .int .i64 l]
 own : Own 0 5 .u8 wx v A
 fresh : ∀ b, v.ownBlock = some b → w.heap.size < b
 same : Same w wx
theorem OutS.on {w wx wy : World} {s e c l : Int} {v : Value} {A : List Int} (h : OutS w wx s e c l v A) (hk : Same wx wy) : OutS w wy s e c l v A := ⟨h.box.same hk, h.own.same hk, h.fresh, h.same.trans hk⟩
theorem OutS.next {w wx wy : World} {s e c l : Int} {v v' : Value} {A A' : List Int} (h : OutS w wx s e c l v A) (hg : Grew wx v wy v') (ho : Own 0 5 .u8 wy v' A') : OutS w wy s e c l v' A' :=
 ⟨h.box.kept hg.kept (fun hb => by have := h.fresh _ hb; omega), ho, fun b hb => (hg.own b hb).elim (fun h1 => h.fresh b h1) (fun h1 => Nat.lt_of_lt_of_le h.box.lt h1), hg.same h.same (fun b hb => Nat.le_of_lt (h.fresh b hb))⟩
theorem specEM_any (s e c l : Int) (w : World) :
  Calls Tryd.prog 24 #[.agg #[.int .i64 s, .int .i64 e, .int .i64 c, .int .i64 l]] w fun ex w' => ∃ a c', ex = .returned (.slice a (encM s e c l).length c') ∧ (∀ b, (Value.slice a (encM s e c l).length c').ownBlock = some b → w.heap.size ≤ b) ∧
   Own 0 5 .u8 w' (.slice a (encM s e c l).length c') (encM s e c l) ∧ Same w w' := by
 have HK0 := hid (sameA w [.int .i64 s, .int .i64 e, .int .i64 c, .int .i64 l] 28)
 have k1 := specMF_any s e c l (w.alloc (.cells #[.int .i64 s, .int .i64 e, .int .i64 c, .int .i64 l] 28))
 have b0 := Blk.new w #[.int .i64 s, .int .i64 e, .int .i64 c, .int .i64 l] 28
 by_cases hg : mF s e c l = 0
 ·rw [hg] at k1
  rw [encM_yes hg, mB_length]
  obtain ⟨⟨hs1, hs2⟩, ⟨he1, he2⟩, hl1, hl2, hc2⟩ := mF_good hg
  clear hg
  go_enter Tryd.func24, Tryd.ntmps24
  go_wp2_with (go_at_call 14; (with_reducible refine k1.mono ?_); rintro ex w1 ⟨rfl, hk1⟩; have b1 := b0.same hk1; have HK1 := (show Hid (Same w w1) from HK0.out.trans hk1); clear hk1 b0 HK0)
  let Y1 : World → Prop := fun wx : World => wx.cell? ⟨w.heap.size, 0, none⟩ = some (.int .i64 s) ∧ wx.cell? ⟨w.heap.size, 1, none⟩ = some (.int .i64 e)
  have hS : Y1 w1.drew := ⟨b1.drew.cell 0, b1.drew.cell 1⟩
  refine wp_region_V Y1 99 9 rfl (by kernel_rfl) ?_
  refine tk 2 10 hS ?_
  refine tk 3 11 hS ?_
  refine tk 5 13 hS ?_
  refine tk 6 14 hS ?_
  refine wpAnyV_one (i := 0) (by kernel_rfl) rfl (fun K hK => ?_)
  go_simp
  have hS : Y1 (w1.alloc (.cells #[.int .u8 104, .int .u8 101, .int .u8 97, .int .u8 112] 5)).drew := ⟨(b1.same ((Kept.refl _ _).alloc _)).drew.cell 0, (b1.same ((Kept.refl _ _).alloc _)).drew.cell 1⟩
  refine hK.out _ _ (fun _ => hS) ?_
  clear hK K
  try simp only [Act.put, sA, s0, sS]
  have hcv : (convert 22 22 (.slice (some ⟨w1.heap.size, 0, none⟩) 4 4)).run Tryd.prog (w1.alloc (.cells #[.int .u8 104, .int .u8 101, .int .u8 97, .int .u8 112] 5)).drew = .ok (.slice (some ⟨w1.heap.size, 0, none⟩) 4 4) (w1.alloc (.cells #[.int .u8 104, .int .u8 101, .int .u8 97, .int .u8 112] 5 (4, 5))).drew := Go.Joins.run_convert_bytes_const_at w1.drew 22 5 #[.int .u8 104, .int .u8 101, .int .u8 97, .int .u8 112] 4 4 w1.heap.size rfl Tryd.underlying22 Tryd.underlying5
  refine wpAnyV_one (i := 1) (by kernel_rfl) rfl (fun K hK => ?_)
  go_simp
  clear hcv
  have hk2 : Same w1 (w1.alloc (.cells #[.int .u8 104, .int .u8 101, .int .u8 97, .int .u8 112] 5 (4, 5))).drew := ((Kept.refl _ _).alloc _).drew
  have hrd : Rd .u8 (w1.alloc (.cells #[.int .u8 104, .int .u8 101, .int .u8 97, .int .u8 112] 5 (4, 5))).drew (.slice (some ⟨w1.heap.size, 0, none⟩) hp4.length hp4.length) hp4 := by
   refine ⟨by decide, .inr ⟨w1.heap.size, 0, 4, rfl, by decide, fun i hi => ?_⟩⟩
   have hi : i < 4 := hi
   have hh := World.cell?_alloc_mark w1.drew #[.int .u8 104, .int .u8 101, .int .u8 97, .int .u8 112] 5 (4, 5) (0 + i)
   refine hh.trans ?_
   match i, hi with
   | 0, _ => rfl
   | 1, _ => rfl
   | 2, _ => rfl
   | 3, _ => rfl
  have b2 := b1.same hk2
  have HK2 := hid (HK1.out.trans hk2)
  obtain ⟨w2, hw2⟩ : ∃ w2, (w1.alloc (.cells #[.int .u8 104, .int .u8 101, .int .u8 97, .int .u8 112] 5 (4, 5))).drew = w2 := ⟨_, rfl⟩
  rw [hw2] at b2 HK2 hrd ⊢
  have hz2 := b2.lt
  clear hw2 hk2 HK1 b1
  have hS : Y1 w2 := ⟨b2.cell 0, b2.cell 1⟩
  refine hK.out _ _ (fun _ => hS) ?_
  clear hK K
  try simp only [Act.put, sA, s0, sS]
  refine wpAnyV_one (i := 4) (by kernel_rfl) rfl (fun K hK => ?_)
  go_simp
  have hq := l4Put_first w1.heap.size hp4 s 8 w2 (by unfold IsI; omega) (by unfold IsI; omega) (by decide) (by rw [numB8 s (by omega) (by omega), lows_length]; decide) (by decide) hrd
  refine hq.mono ?_
  rintro ex w3 ⟨a3, n3, c3, rfl, hown, hfr, hk3⟩
  rw [numB8 s (by omega) (by omega)] at hown
  have HO3 := (show Hid (OutS w w3 s e c l (.slice a3 n3 c3) (hp4 ++ lows s 8)) from ⟨b2.same hk3, hown, fun b hb => by have := hfr b hb; omega, HK2.out.trans hk3⟩)
  have hS : Y1 w3 := ⟨HO3.out.box.cell 0, HO3.out.box.cell 1⟩
  clear hq hown hfr hk3 hrd b2 HK2
  refine hK.out _ _ (fun _ => hS) ?_
  clear hK K
  try simp only [Act.put, sA, s0, sS]
  refine wpAnyV_one (i := 7) (by kernel_rfl) rfl (fun K hK => ?_)
  go_simp
  refine (l4Put_own _ (hp4 ++ lows s 8) e 4 _ (by unfold IsI; omega) (by unfold IsI; omega) (by simp [hp4, lows_length]) HO3.out.own).mono ?_
  rintro ex w4 ⟨a4, n4, c4, rfl, hown, hgr⟩
  rw [numB4' e (by omega) (by omega)] at hown
  have HO4 := (show Hid (OutS w w4 s e c l (.slice a4 n4 c4) (hp4 ++ lows s 8 ++ lows e 4)) from HO3.out.next hgr hown)
  have hS : Y1 w4 := ⟨HO4.out.box.cell 0, HO4.out.box.cell 1⟩
  clear hown hgr HO3
  refine hK.out _ _ (fun _ => hS) ?_
  clear hK K
  try simp only [Act.put, sA, s0, sS]
  refine wpAnyV_one (i := 8) (by kernel_rfl) rfl (fun K hK => ?_)
  go_simp
  refine hK.out _ _ (fun _ => hS) ?_
  clear hK K
  refine wpAnyV_done (by kernel_rfl) ?_
  try simp only [Act.put, sA, s0, sS]
  go_wp2_with fail
  let Y2 : World → Prop := fun wx : World => wx.cell? ⟨w.heap.size, 2, none⟩ = some (.int .i64 c) ∧ wx.cell? ⟨w.heap.size, 3, none⟩ = some (.int .i64 l)
  have hS : Y2 w4.drew := ⟨(HO4.out.on (Kept.refl _ _).drew).box.cell 2, (HO4.out.on (Kept.refl _ _).drew).box.cell 3⟩
  have HO5 := (show Hid (OutS w w4.drew s e c l (.slice a4 n4 c4) (hp4 ++ lows s 8 ++ lows e 4)) from HO4.out.on (Kept.refl _ _).drew)
  clear HO4
  refine wp_region_V Y2 99 8 rfl (by kernel_rfl) ?_
  refine tk 0 16 hS ?_
  refine tk 1 17 hS ?_
  refine tk 2 18 hS ?_
  refine tk 4 20 hS ?_
  refine tk 5 21 hS ?_
  refine wpAnyV_one (i := 3) (by kernel_rfl) rfl (fun K hK => ?_)
  go_simp
  refine (l4Put_own _ (hp4 ++ lows s 8 ++ lows e 4) c 8 _ (by unfold IsI; omega) (by unfold IsI; omega) (by simp [hp4, lows_length]) HO5.out.own).mono ?_
  rintro ex w6 ⟨a6, n6, c6, rfl, hown, hgr⟩
  rw [numB8 c (by omega) (by omega)] at hown
  have HO6 := (show Hid (OutS w w6 s e c l (.slice a6 n6 c6) (hp4 ++ lows s 8 ++ lows e 4 ++ lows c 8)) from HO5.out.next hgr hown)
  have hS : Y2 w6 := ⟨HO6.out.box.cell 2, HO6.out.box.cell 3⟩
  clear hown hgr HO5
  refine hK.out _ _ (fun _ => hS) ?_
  clear hK K
  try simp only [Act.put, sA, s0, sS]
  refine wpAnyV_one (i := 6) (by kernel_rfl) rfl (fun K hK => ?_)
  go_simp
  refine (l4Put_own _ (hp4 ++ lows s 8 ++ lows e 4 ++ lows c 8) l 8 _ (by unfold IsI; omega) (by unfold IsI; omega) (by simp [hp4, lows_length]) HO6.out.own).mono ?_
  rintro ex w7 ⟨a7, n7, c7, rfl, hown, hgr⟩
  rw [numB8 l (by omega) (by omega)] at hown
  have HO7 := (show Hid (OutS w w7 s e c l (.slice a7 n7 c7) (hp4 ++ lows s 8 ++ lows e 4 ++ lows c 8 ++ lows l 8)) from HO6.out.next hgr hown)
  have hS : Y2 w7 := ⟨HO7.out.box.cell 2, HO7.out.box.cell 3⟩
  clear hown hgr HO6
  refine hK.out _ _ (fun _ => hS) ?_
  clear hK K
  try simp only [Act.put, sA, s0, sS]
  refine wpAnyV_one (i := 7) (by kernel_rfl) rfl (fun K hK => ?_)
  go_simp
  refine hK.out _ _ (fun _ => hS) ?_
  clear hK K
  refine wpAnyV_done (by kernel_rfl) ?_
  try simp only [Act.put, sA, s0, sS]
  have HH := (show Hid (OutS w w7 s e c l (.slice a7 n7 c7) (mH s e c l)) from HO7.out)
  clear HO7 hS
  obtain rfl : n7 = 32 := by obtain ⟨_, _, he⟩ := HH.out.own.rd.form; injection he
  have kc := specCrc_any (.slice a7 32 c7) (mH s e c l) w7 (mH_isB s e c l) (by rw [mH_length]; decide) HH.out.own.rd
  have hcr := crcOn_le 0 (mH s e c l) (by decide) (by decide) (mH_isB s e c l)
  go_wp2_with fail
  refine kc.mono ?_
  rintro ex w8 ⟨rfl, hk8⟩
  have HH8 := (show Hid (OutS w w8 s e c l (.slice a7 32 c7) (mH s e c l)) from HH.out.on hk8)
  clear kc hk8 HH
  go_wp2_with fail
  refine (l4Put_own _ (mH s e c l) (crcOn 0 (mH s e c l)) 4 _ (by unfold IsI; omega) (by unfold IsI; omega) (by rw [mH_length]; decide) HH8.out.own).mono ?_
  rintro ex w9 ⟨a9, n9, c9, rfl, hown, hgr⟩
  rw [numB4' _ hcr.1 hcr.2] at hown
  have HO9 := (show Hid (OutS w w9 s e c l (.slice a9 n9 c9) (mH s e c l ++ lows (crcOn 0 (mH s e c l)) 4)) from HH8.out.next hgr hown)
  clear hown hgr HH8
  obtain rfl : n9 = 36 := by obtain ⟨_, _, he⟩ := HO9.out.own.rd.form; injection he
  go_wp2_with (at_builtin; refine wpList_app_zeros rfl (.tmp 27) (.tmp 30) rfl (.slice a9 36 c9) (mH s e c l ++ lows (crcOn 0 (mH s e c l)) 4) 476 rfl rfl (by decide) HO9.out.own (by rw [List.length_append, mH_length, lows_length]; decide) ?_; intro a10 n10 c10 w10 hown hgr; have HO10 := (show Hid (OutS w w10 s e c l (.slice a10 n10 c10) (mB s e c l)) from HO9.out.next hgr hown); clear hown hgr)
  go_ret
  obtain rfl : n10 = 512 := by obtain ⟨_, _, he⟩ := HO10.out.own.rd.form; injection he
  exact ⟨a10, c10, rfl, fun b hb => Nat.le_of_lt (HO10.out.fresh b hb), HO10.out.own, HO10.out.same⟩
 ·rw [encM_no hg]
  have hg' : ¬ mF s e c l = 0 := hg
  go_enter Tryd.func24, Tryd.ntmps24
  go_wp2_with (go_at_call 14; (with_reducible refine k1.mono ?_); rintro ex w1 ⟨rfl, hk1⟩; have HK1 := (show Hid (Same w w1) from HK0.out.trans hk1); clear hk1)
  go_ret
  refine ⟨_, _, rfl, fun b hb => ?_, Own.empty _ _, HK1.out.alloc _⟩
  have : w1.heap.size = b := by simpa [Value.ownBlock] using hb
  have := HK1.out.size
  omega
end Go.Proofs.YtnkollbhicmdhaaDoor
