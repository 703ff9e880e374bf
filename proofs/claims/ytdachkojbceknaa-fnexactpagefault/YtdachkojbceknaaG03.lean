import Derived.Test.YtdachkojbceknaaG00
import Derived.Test.YtdachkojbceknaaG02
import Derived.Deep.MidRow
import Derived.Deep.WholeRow
import Derived.Deep.AppendLies
namespace Go.Proofs.Ytdachkojbceknaa
set_option linter.unusedVariables false
set_option maxRecDepth 100000
set_option maxHeartbeats 16000000
set_option linter.unusedSimpArgs false
open Go.RowKit
theorem addr_add (B o j : Nat) : (⟨B, o, none⟩ : Addr).add j = ⟨B, o + j, none⟩ := by unfold Addr.add; split <;> simp_all
theorem Blk.loads {P : Program} {w : World} {B : Nat} {e : TypeId} {xs : List Value} (h : Blk w B e xs) (o n : Nat) (hn : o + n ≤ xs.length) : (loadCellsFrom ⟨B, o, none⟩ 0 n #[]).run P w = .ok ((xs.drop o).take n).toArray w := by
 have hl : ((xs.drop o).take n).length = n := by simp; omega
 have := run_loadCells_list (P := P) w ⟨B, o, none⟩ ((xs.drop o).take n) (fun j v hv => by
  rw [addr_add, h.cell]
  have hj : j < n := by have := (List.getElem?_eq_some_iff.1 hv).1; omega
  rw [List.getElem?_take_of_lt hj, List.getElem?_drop] at hv
  exact hv)
 simpa [loadCells, hl] using this
theorem Blk.setCells {B : Nat} {e : TypeId} : ∀ (vs : List Value) (o : Nat) {w : World} {xs : List Value}, Blk w B e xs → o + vs.length ≤ xs.length → Blk (w.setCells B o vs) B e (lay xs o vs)
 | [], o, w, xs, h, _ => by rw [lay_nil]; exact h
 | v :: vs, o, w, xs, h, hl => by
  simp only [List.length_cons] at hl
  have := Blk.setCells vs (o + 1) (h.stored o v) (by rw [List.length_set]; omega)
  rw [lay_cons _ _ _ _ hl] at this
  exact this
theorem Kept.setCells {R : Nat → Prop} {a : World} {B : Nat} (hB : a.heap.size ≤ B ∨ R B) : ∀ (vs : List Value) (o : Nat) {b : World}, Kept R a b → Kept R a (b.setCells B o vs)
 | [], _, _, h => h
 | v :: vs, o, b, h => Kept.setCells hB vs (o + 1) (h.setCell (p := ⟨B, o, none⟩) hB v)
theorem Blk.stores {P : Program} {w : World} {B : Nat} {e : TypeId} {xs : List Value} (h : Blk w B e xs) (o : Nat) (vs : List Value) (hn : o + vs.length ≤ xs.length) (h1 : ∀ v ∈ vs, v.oneCell' = true) : (storeCells ⟨B, o, none⟩ vs 0).run P w = .ok () (w.setCells B o vs) := by
 have := run_storeCells_cells (P := P) B o vs 0 w (fun j hj => by rw [Nat.add_zero, h.cell, List.getElem?_eq_getElem (by omega)]; rfl) (fun j _ => h.frozen _) h1
 simpa using this
theorem Blk.range {w : World} {B : Nat} {e : TypeId} {xs : List Value} (h : Blk w B e xs) (o : Nat) (cs : List Value) (hc : ∀ j v, cs[j]? = some v → xs[o + j]? = some v) : w.rangeAt B o cs := fun j v hv => by
 rw [h.cell]
 exact hc j v hv
theorem Blk.rangeAll {w : World} {B : Nat} {e : TypeId} {xs : List Value} (h : Blk w B e xs) : w.rangeAt B 0 xs := h.range 0 xs (fun j v hv => by rw [Nat.zero_add]; exact hv)
theorem Blk.there {w : World} {B : Nat} {e : TypeId} {xs : List Value} (h : Blk w B e xs) (o n : Nat) (hn : o + n ≤ xs.length) : w.there B o n := fun j hj => ⟨by rw [h.cell, List.getElem?_eq_getElem (by omega)]; rfl, h.frozen _⟩
theorem Kept.ranges {w w' : World} {b o : Nat} {cs : List Value} (hk : Same w w') (h : w.rangeAt b o cs) : w'.rangeAt b o cs := fun j v hv => hk.cellOf (h j v hv) id
def sealB (bs : List Int) : List Int := lows (crcOn 0 (bs.drop 4)) 4 ++ bs.drop 4
theorem sealB_length (bs : List Int) (h : 4 ≤ bs.length) : (sealB bs).length = bs.length := by simp [sealB, lows_length]; omega
theorem lay_seal (bs : List Int) (h : 4 ≤ bs.length) : lay (vals .u8 bs) 0 (vals .u8 (lows (crcOn 0 (bs.drop 4)) 4)) = vals .u8 (sealB bs) := by
 unfold lay sealB
 have e : (vals .u8 (lows (crcOn 0 (bs.drop 4)) 4)).length = 4 := by rw [vals_length, lows_length]
 rw [e]
 simp [vals]
theorem Blk.rd {w : World} {B : Nat} {e : TypeId} {bs : List Int} (h : Blk w B e (vals .u8 bs)) (o n c : Nat) (hn : o + n ≤ bs.length) (hc : n ≤ c) (hm : bs.length ≤ maxLen) : Rd .u8 w (.slice (some ⟨B, o, none⟩) n c) ((bs.drop o).take n) := by
 have hl : ((bs.drop o).take n).length = n := by simp; omega
 refine ⟨by omega, .inr ⟨B, o, c, by rw [hl], by omega, fun i hi => ?_⟩⟩
 rw [h.cell, vals_at _ _ _ (by omega)]
 simp [List.getD, List.getElem?_take, show i < n by omega]
theorem sealed_any (bs : List Int) (w : World) (hB : IsB bs) (hl : bs.length = 4096) :
  Calls Try.prog 57 #[.agg (vals .u8 bs).toArray] w fun e w' => e = .returned (.agg (vals .u8 (sealB bs)).toArray) ∧ Same w w' := by
 obtain ⟨cs, hcs⟩ : ∃ cs : Array Value, (vals .u8 bs).toArray = cs := ⟨_, rfl⟩
 have hsz : cs.size = 4096 := by rw [← hcs]; simp [vals, hl]
 have HCS := (show Hid ((vals .u8 bs).toArray = cs) from hcs)
 have HB := (show Hid (IsB bs) from hB)
 have HL := (show Hid (bs.length = 4096) from hl)
 have hsum := crcOn_le 0 (bs.drop 4) (by decide) (by decide) (fun y hy => hB y (List.mem_of_mem_drop hy))
 rw [hcs]
 clear hcs hB hl
 go_enter Try.func57, Try.ntmps57
 go_wp2_with fail
 obtain ⟨w1, hw1⟩ : ∃ w1, ((w.alloc (.cells cs 58)).alloc (.cells Try.zeroCells58 58)) = w1 := ⟨_, rfl⟩
 have HB1 := (show Hid (Blk w1 w.heap.size 58 (vals .u8 bs)) from by
  rw [← hw1]
  have h := Blk.new w cs 58
  rw [← HCS.out] at h ⊢
  exact h.alloc _)
 have HB2 := (show Hid (Blk w1 (w.heap.size + 1) 58 Try.zeroCells58.toList) from by
  rw [← hw1]
  have h := Blk.new (w.alloc (.cells cs 58)) Try.zeroCells58 58
  rw [World.size_alloc] at h
  exact h)
 have HK1 := (show Hid (Same w w1) from by rw [← hw1]; exact ((Kept.refl _ _).alloc _).alloc _)
 have hsz1 : w1.heap.size = w.heap.size + 2 := by rw [← hw1]; simp
 rw [hw1]
 clear hw1
 have hS : (fun _ : World => True) w1.drew := by trivial
 refine wp_region_V (fun _ : World => True) 99 4 rfl (by kernel_rfl) ?_
 refine tk 0 3 hS ?_
 refine tk 1 4 hS ?_
 refine wpAnyV_one (i := 2) (by kernel_rfl) rfl (fun K hK => ?_)
 go_simp
 have hR : ∀ wx, Same w1 wx → Rd .u8 wx (.slice (some ⟨w.heap.size, 4, none⟩) 4092 4092) (bs.drop 4) := fun wx hx => by
  have h := (HB1.out.same hx).rd 4 4092 4092 (by rw [HL.out]; decide) (Nat.le_refl _) (by rw [HL.out]; decide)
  rwa [List.take_of_length_le (by rw [List.length_drop, HL.out]; decide)] at h
 have hc := implCrc_any (.slice (some ⟨w.heap.size, 4, none⟩) 4092 4092) (bs.drop 4) w1.drew (fun y hy => HB.out y (List.mem_of_mem_drop hy)) (by rw [List.length_drop, HL.out]; decide) (hR _ (Kept.refl _ _).drew)
 with_reducible refine hc.mono ?_
 clear hc hR
 rintro e w2 ⟨rfl, hkk⟩
 have HK2 := (show Hid (Same w1 w2) from (Kept.refl _ _).drew.trans hkk)
 clear hkk
 refine hK.out _ _ (fun _ => trivial) ?_
 clear hK K
 try simp only [Act.put, sA, s0, sS]
 refine wpAnyV_one (i := 3) (by kernel_rfl) rfl (fun K hK => ?_)
 go_simp
 have hc := writeNumber_any w.heap.size 0 4 4096 58 (vals .u8 bs) (crcOn 0 (bs.drop 4)) w2 (HB1.out.same HK2.out) (by rw [vals_length, HL.out]; decide) hsum.1 (by omega) (by decide)
 with_reducible refine hc.mono ?_
 clear hc
 rintro e w3 ⟨rfl, hb3, hk3⟩
 rw [lay_seal bs (by rw [HL.out]; decide)] at hb3
 have hsl : (vals .u8 (sealB bs)).length = 4096 := by rw [vals_length, sealB_length _ (by rw [HL.out]; decide), HL.out]
 obtain ⟨ds, hds⟩ : ∃ ds : List Value, vals .u8 (sealB bs) = ds := ⟨_, rfl⟩
 have HDS := (show Hid (vals .u8 (sealB bs) = ds) from hds)
 have hone : ∀ v ∈ ds, v.oneCell' = true := by rw [← hds]; exact vals_one
 rw [hds] at hb3 hsl
 have hb4 := (HB2.out.same HK2.out).kept hk3 (by omega)
 have hzl : Try.zeroCells58.toList.length = 4096 := by rw [Array.length_toList]; exact Try.zeroCells58_size
 have HRG := (show Hid (w3.rangeAt w.heap.size 0 ds) from hb3.rangeAll)
 have HTH := (show Hid (w3.there (w.heap.size + 1) 0 ds.toArray.size) from hb4.there 0 _ (by simp; omega))
 have hb5 := hb4.setCells ds 0 (by omega)
 rw [lay_all _ _ (by omega)] at hb5
 have HRG2 := (show Hid ((w3.setCells (w.heap.size + 1) 0 ds).rangeAt (w.heap.size + 1) 0 ds) from hb5.rangeAll)
 have HI := (show Hid ((Try.prog.info? 58).map (·.size) = some ds.length) from (by rw [hsl]; exact (by kernel_rfl : (Try.prog.info? 58).map (·.size) = some 4096) : (Try.prog.info? 58).map (·.size) = some ds.length))
 have HI2 := (show Hid ((Try.prog.info? 58).map (·.size) = some ds.toArray.size) from by rw [List.size_toArray]; exact HI.out)
 have HONE := (show Hid (ds.toArray.all (·.oneCell') = true) from all_oneCell_toArray hone)
 have HK4 := (show Hid (Same w (w3.setCells (w.heap.size + 1) 0 ds)) from Kept.setCells (.inl (by omega)) ds 0 ((HK1.out.trans HK2.out).next hk3 (fun i hi e => by omega)))
 clear hds hk3 hb3 hb4 hb5 hzl hone hsl
 refine hK.out _ _ (fun _ => trivial) ?_
 clear hK K
 refine wpAnyV_done (by kernel_rfl) ?_
 try simp only [Act.put, sA, s0, sS]
 go_wp2_with (first | (refine wpList_load_mid rfl 58 _ rfl w.heap.size 0 rfl ds _ HRG.out Try.underlying58 rfl HI.out ?_) | (refine wpList_store_mid rfl 58 _ _ rfl (w.heap.size + 1) 0 ds.toArray rfl rfl HTH.out HI2.out HONE.out ?_))
 have hlv := run_loadVar_mid (P := Try.prog) _ (w.heap.size + 1) 0 58 ds _ HRG2.out Try.underlying58 rfl HI.out
 refine bodyPost_ret (v := .agg ds.toArray) ?_ rfl ?_
 ·simp [results, Try.results57, asAddr, hlv]
 ·rw [HDS.out]
  exact ⟨rfl, HK4.out⟩
theorem list_any (bs : List Int) (w : World) (hl : bs.length = 4096) :
  Calls Try.prog 46 #[.agg (vals .u8 bs).toArray] w fun e w' => e = .returned (.slice (some ⟨w.heap.size, 0, none⟩) 4096 4096) ∧ Blk w' w.heap.size 58 (vals .u8 bs) ∧ Same w w' := by
 obtain ⟨cs, hcs⟩ : ∃ cs : Array Value, (vals .u8 bs).toArray = cs := ⟨_, rfl⟩
 have hsz : cs.size = 4096 := by rw [← hcs]; simp [vals, hl]
 have HCS := (show Hid ((vals .u8 bs).toArray = cs) from hcs)
 rw [hcs]
 clear hcs hl
 go_enter Try.func46, Try.ntmps46
 go_wp2
 go_ret
 refine ⟨rfl, ?_, (Kept.refl _ _).alloc _⟩
 have h := Blk.new w cs 58
 rw [← HCS.out] at h ⊢
 exact h
def pageSeal (bs : List Int) : List Int := if bs.length = 4096 then sealB bs else []
theorem run_arrayP (w : World) (ad : Option Addr) (c : Nat) : (Instr.arrayAt 58 (.slice ad 4096 c)).run Try.prog w = .ok (.pointer ad) w := by
 simp [Instr.arrayAt, run_underlying Try.underlying58]
theorem page_info : (Try.prog.info? 58).map (·.size) = some 4096 := by kernel_rfl
theorem rd_range {w : World} {b off c : Nat} {bs : List Int} (h : Rd .u8 w (.slice (some ⟨b, off, none⟩) bs.length c) bs) (hn : 0 < bs.length) : w.rangeAt b off (vals .u8 bs) := fun j v hv => by
 have hj : j < bs.length := by have := (List.getElem?_eq_some_iff.1 hv).1; rwa [vals_length] at this
 rcases h.2 with ⟨h0, _⟩ | ⟨b', o', c', e, _, hc⟩
 ·rw [h0] at hn
  simp at hn
 ·cases e
  rw [hc j hj, ← hv, vals_at _ _ _ hj]
theorem rd_some {w : World} {a : Option Addr} {n c : Nat} {bs : List Int} (h : Rd .u8 w (.slice a n c) bs) (hn : 0 < bs.length) : ∃ b off, a = some ⟨b, off, none⟩ ∧ bs.length ≤ c := by
 rcases h.2 with ⟨h0, _⟩ | ⟨b', o', c', e, hl, hc⟩
 ·rw [h0] at hn
  simp at hn
 ·cases e
  exact ⟨_, _, rfl, hl⟩
theorem numB4 (x : Int) (h0 : 0 ≤ x) (h1 : x ≤ 4294967295) : numB x 4 = lows x 4 := by
 unfold numB
 rw [if_neg]
 ·rfl
 ·have : x / 256 ^ (4 : Int).toNat = 0 := by
   rw [show (256 : Int) ^ (4 : Int).toNat = 4294967296 from rfl]
   omega
  omega
theorem specSeal_any (v : Value) (bs : List Int) (w : World) (hB : IsB bs) (hn : bs.length ≤ 1099511627776) (hv : Rd .u8 w v bs) :
  Calls Try.prog 63 #[v] w fun e w' => ∃ a c, e = .returned (.slice a (pageSeal bs).length c) ∧ (∀ b, (Value.slice a (pageSeal bs).length c).ownBlock = some b → w.heap.size ≤ b) ∧
   Own 0 5 .u8 w' (.slice a (pageSeal bs).length c) (pageSeal bs) ∧ Same w w' := by
 obtain ⟨a, c, rfl⟩ := hv.form
 by_cases hl : bs.length = 4096
 ·have hR : pageSeal bs = sealB bs := by unfold pageSeal; rw [if_pos hl]
  have hsl : (sealB bs).length = 4096 := by rw [sealB_length _ (by omega), hl]
  obtain ⟨b, off, rfl, hc⟩ := rd_some hv (by omega)
  obtain ⟨i0, hi, hz0, hz1, hz2⟩ := info_parts Try.infoByte'
  have HV := (show Hid (Rd .u8 w (.slice (some ⟨b, off, none⟩) bs.length c) bs) from hv)
  have HB := (show Hid (IsB bs) from hB)
  have HL := (show Hid (bs.length = 4096) from hl)
  have hsum := crcOn_le 0 (bs.drop 4) (by decide) (by decide) (fun y hy => hB y (List.mem_of_mem_drop hy))
  have HN4 := (show Hid (numB (crcOn 0 (bs.drop 4)) 4 = lows (crcOn 0 (bs.drop 4)) 4) from numB4 _ hsum.1 hsum.2)
  have HRd := (show Hid (∀ wx, Same w wx → Rd .u8 wx (.slice (some ⟨b, off + 4, none⟩) 4092 (c - 4)) (bs.drop 4)) from fun wx hx => by
   have h := Rd.back (hv.same hx) 4 (by omega)
   rwa [show bs.length - 4 = 4092 from by omega] at h)
  clear hv hB hn
  rw [hR, hsl, hl]
  rw [hl] at hc
  have hc4 : (4 : Int) ≤ (c : Int) := by omega
  have hc5 : 4 < c := by omega
  have hc6 : ¬ c = 4 := by omega
  clear hl
  go_enter Try.func63, Try.ntmps63
  go_wp2_with fail
  have hS : (fun _ : World => True) w.drew := by trivial
  refine wp_region_V (fun _ : World => True) 99 8 rfl (by kernel_rfl) ?_
  refine tk 0 7 hS ?_
  refine tk 1 8 hS ?_
  refine tk 4 11 hS ?_
  refine tk 5 12 hS ?_
  refine wpAnyV_one (i := 2) (by kernel_rfl) rfl (fun K hK => ?_)
  go_simp
  have hcc := specCrc_any (.slice (some ⟨b, off + 4, none⟩) 4092 (c - 4)) (bs.drop 4) w.drew (fun y hy => HB.out y (List.mem_of_mem_drop hy)) (by rw [List.length_drop, HL.out]; decide) (HRd.out _ (Kept.refl _ _).drew)
  with_reducible refine hcc.mono ?_
  clear hcc
  rintro e w2 ⟨rfl, hkk⟩
  have HK2 := (show Hid (Same w w2) from (Kept.refl _ _).drew.trans hkk)
  have hz2' := hkk.size
  clear hkk
  refine hK.out _ _ (fun _ => trivial) ?_
  clear hK K
  try simp only [Act.put, sA, s0, sS]
  refine wpAnyV_one (i := 3) (by kernel_rfl) rfl (fun K hK => ?_)
  go_simp
  have hcc := specPut_any (crcOn 0 (bs.drop 4)) 4 w2 ⟨by omega, by omega⟩ ⟨by decide, by decide⟩
  with_reducible refine hcc.mono ?_
  clear hcc
  rintro e w3 ⟨a3, c3, rfl, hf3, ho3, hk3⟩
  rw [HN4.out, lows_length] at hf3 ho3 ⊢
  have HK3 := hid (HK2.out.trans hk3)
  have HF3 := (show Hid (∀ b, (Value.slice a3 4 c3).ownBlock = some b → w2.heap.size ≤ b) from hf3)
  have HO3 := (show Hid (Own 0 5 .u8 w3 (.slice a3 4 c3) (lows (crcOn 0 (bs.drop 4)) 4)) from ho3)
  clear hf3 ho3 hk3
  refine hK.out _ _ (fun _ => trivial) ?_
  clear hK K
  try simp only [Act.put, sA, s0, sS]
  refine wpAnyV_one (i := 6) (by kernel_rfl) rfl (fun K hK => ?_)
  have hnews : ∀ j u, (vals .u8 (bs.drop 4))[j]? = some u → w3.cell? ((⟨b, off + 4, none⟩ : Addr).add j) = some u := fun j u hu => by
   have hj : j < (bs.drop 4).length := by have := (List.getElem?_eq_some_iff.1 hu).1; rwa [vals_length] at this
   rcases (HRd.out _ HK3.out).2 with ⟨h0, _⟩ | ⟨b', o', c', e, _, hcc⟩
   ·rw [h0] at hj
    simp at hj
   ·simp only [Value.slice.injEq, Option.some.injEq, Addr.mk.injEq] at e
    obtain ⟨⟨rfl, rfl, _⟩, _, rfl⟩ := e
    rw [addr_add, hcc j hj, ← hu, vals_at _ _ _ hj]
  have hdl : (vals .u8 (bs.drop 4)).length = 4092 := by rw [vals_length, List.length_drop, HL.out]
  have hown3 : w3.ownsRow 0 5 1 (.slice a3 4 c3) 4 (vals .u8 (lows (crcOn 0 (bs.drop 4)) 4)) := by have h := HO3.out; unfold Own at h; rwa [lows_length] at h
  refine step_append_lies _ (by rfl) _ _ 22 (by rfl) 0 5 i0 (.int .u8 0) 1 1 Try.underlying22 hi hz0 hz1 hz2 rfl (by omega) (.slice a3 4 c3) 4 (vals .u8 (lows (crcOn 0 (bs.drop 4)) 4)) (by rfl) hown3 ⟨b, off + 4, none⟩ 4092 (c - 4) (vals .u8 (bs.drop 4)) (by rfl) (by rw [hdl]) hnews vals_one (by omega) (by decide) (by decide) (Nat.zero_le _) w3.heap.size rfl ?_
  intro g4 cap4 w4 hown4 hgrow4 hat4 hlt4
  have HO4 := (show Hid (Own 0 5 .u8 w4 (.slice (some ⟨g4, 0, none⟩) 4096 cap4) (sealB bs)) from (by unfold Own Hid; rw [hsl]; simpa [sealB, vals] using hown4))
  have HK4 := (show Hid (Same w w4) from HK3.out.grown hgrow4 (fun k e => .inl (by have := HF3.out k e; have := HK2.out.size; omega)))
  have hg4 : w.heap.size ≤ g4 := by
   have := HK2.out.size
   have := HK3.out.size
   rcases hat4 with h | h
   ·have := HF3.out g4 h; omega
   ·omega
  clear hown4 hgrow4 hat4 hown3 hnews
  refine hK.out _ _ (fun _ => trivial) ?_
  clear hK K
  try simp only [Act.put, sA, s0, sS]
  refine tk 7 2 hS ?_
  refine wpAnyV_done (by kernel_rfl) ?_
  go_wp2
  go_ret
  refine ⟨_, _, rfl, fun b hb => ?_, HO4.out, HK4.out⟩
  simp [Value.ownBlock] at hb
  omega
 ·have hR : pageSeal bs = [] := by unfold pageSeal; rw [if_neg hl]
  rw [hR]
  have hl' : ¬ (bs.length : Int) = 4096 := by omega
  clear hv hB
  go_enter Try.func63, Try.ntmps63
  go_wp2
  go_ret
  exact ⟨some ⟨w.heap.size, 0, none⟩, 0, rfl, fun b hb => by simp [Value.ownBlock] at hb; omega, Own.empty _ _, (Kept.refl _ _).alloc _⟩
def spCells (sum : List Int) (lsn num bot : Int) (sl raw : List Int) : List Value :=
 vals .u8 sum ++ (.int .i64 lsn :: .int .i64 num :: .int .i64 bot :: (vals .i64 sl ++ vals .u8 raw))
structure SP (w : World) (B : Nat) (sum : List Int) (lsn num bot : Int) (sl raw : List Int) : Prop where
 blk : Blk w B 73 (spCells sum lsn num bot sl raw)
 l1 : sum.length = 4
 l2 : sl.length = 64
 l3 : raw.length = 4096
section
variable {w w' : World} {B : Nat} {sum : List Int} {lsn num bot : Int} {sl raw : List Int}
theorem SP.kept {R : Nat → Prop} (h : SP w B sum lsn num bot sl raw) (hk : Kept R w w') (hr : ¬ R B) : SP w' B sum lsn num bot sl raw := ⟨h.blk.kept hk hr, h.l1, h.l2, h.l3⟩
theorem SP.same (h : SP w B sum lsn num bot sl raw) (hk : Same w w') : SP w' B sum lsn num bot sl raw := ⟨h.blk.same hk, h.l1, h.l2, h.l3⟩
theorem spCells_length (h1 : sum.length = 4) (h2 : sl.length = 64) (h3 : raw.length = 4096) : (spCells sum lsn num bot sl raw).length = 4167 := by simp [spCells, vals, h1, h2, h3]
theorem SP.sumAt (h : SP w B sum lsn num bot sl raw) (j : Nat) (hj : j < 4) : w.cell? ⟨B, j, none⟩ = some (.int .u8 (sum.getD j 0)) := by
 rw [h.blk.cell, spCells, List.getElem?_append_left (by rw [vals_length, h.l1]; exact hj), vals_at _ _ _ (by rw [h.l1]; exact hj)]
theorem SP.num3 (h : SP w B sum lsn num bot sl raw) : w.cell? ⟨B, 4, none⟩ = some (.int .i64 lsn) ∧ w.cell? ⟨B, 5, none⟩ = some (.int .i64 num) ∧ w.cell? ⟨B, 6, none⟩ = some (.int .i64 bot) := by
 have e : (vals .u8 sum).length = 4 := by rw [vals_length, h.l1]
 refine ⟨?_, ?_, ?_⟩ <;> rw [h.blk.cell, spCells, List.getElem?_append_right (by rw [e]; decide), e] <;> rfl
theorem SP.slAt (h : SP w B sum lsn num bot sl raw) (j : Nat) (hj : j < 64) : w.cell? ⟨B, 7 + j, none⟩ = some (.int .i64 (sl.getD j 0)) := by
 have e : (vals .u8 sum).length = 4 := by rw [vals_length, h.l1]
 rw [h.blk.cell, spCells, List.getElem?_append_right (by omega), e, show 7 + j - 4 = j + 1 + 1 + 1 from by omega, List.getElem?_cons_succ, List.getElem?_cons_succ, List.getElem?_cons_succ,
  List.getElem?_append_left (by rw [vals_length, h.l2]; exact hj), vals_at _ _ _ (by rw [h.l2]; exact hj)]
theorem SP.rawAt (h : SP w B sum lsn num bot sl raw) (j : Nat) (hj : j < 4096) : w.cell? ⟨B, 71 + j, none⟩ = some (.int .u8 (raw.getD j 0)) := by
 have e : (vals .u8 sum).length = 4 := by rw [vals_length, h.l1]
 have e2 : (vals .i64 sl).length = 64 := by rw [vals_length, h.l2]
 rw [h.blk.cell, spCells, List.getElem?_append_right (by omega), e, show 71 + j - 4 = 64 + j + 1 + 1 + 1 from by omega, List.getElem?_cons_succ, List.getElem?_cons_succ, List.getElem?_cons_succ,
  List.getElem?_append_right (by omega), e2, Nat.add_sub_cancel_left, vals_at _ _ _ (by rw [h.l3]; exact hj)]
theorem SP.rawRange (h : SP w B sum lsn num bot sl raw) : w.rangeAt B 71 (vals .u8 raw) := fun j v hv => by
 have hj : j < 4096 := by have := (List.getElem?_eq_some_iff.1 hv).1; rwa [vals_length, h.l3] at this
 rw [h.rawAt j hj, ← hv, vals_at _ _ _ (by rw [h.l3]; exact hj)]
theorem SP.slRange (h : SP w B sum lsn num bot sl raw) : w.rangeAt B 7 (vals .i64 sl) := fun j v hv => by
 have hj : j < 64 := by have := (List.getElem?_eq_some_iff.1 hv).1; rwa [vals_length, h.l2] at this
 rw [h.slAt j hj, ← hv, vals_at _ _ _ (by rw [h.l2]; exact hj)]
end
/-! ### What is written from the front on -/
def cont (A raw : List Int) : List Int := A ++ raw.drop A.length
theorem cont_nil (raw : List Int) : cont [] raw = raw := by simp [cont]
theorem cont_length (A raw : List Int) (h : A.length ≤ raw.length) : (cont A raw).length = raw.length := by simp [cont]; omega
theorem lay_cont (A raw xs : List Int) (h : A.length + xs.length ≤ raw.length) : lay (vals .u8 (cont A raw)) A.length (vals .u8 xs) = vals .u8 (cont (A ++ xs) raw) := by
 unfold lay cont
 simp [vals, Nat.add_comm]
 rw [List.drop_append, List.drop_of_length_le (by simp), List.drop_drop, List.nil_append, List.length_map]
 congr 1
 omega
theorem Blk.more {w : World} {B : Nat} {e : TypeId} {A raw : List Int} (n : Nat) (xs : List Int) (h : Blk w B e (lay (vals .u8 (cont A raw)) n (vals .u8 xs))) (hn : n = A.length) (hl : A.length + xs.length ≤ raw.length) : Blk w B e (vals .u8 (cont (A ++ xs) raw)) := by
 subst hn
 rwa [lay_cont _ _ _ hl] at h
def headB (sum : List Int) (lsn num bot : Int) : List Int := sum ++ lows lsn 8 ++ lows num 4 ++ lows bot 2 ++ lows 0 2
theorem headB_length (sum : List Int) (lsn num bot : Int) (h : sum.length = 4) : (headB sum lsn num bot).length = 20 := by simp [headB, lows_length, h]
def slotB (sl : List Int) : List Int := sl.flatMap fun x => lows x 2
theorem slotB_length (sl : List Int) : (slotB sl).length = 2 * sl.length := by
 induction sl with
 | nil => rfl
 | cons x sl ih => simp only [slotB, List.flatMap_cons, List.length_append, lows_length, List.length_cons] at ih ⊢; omega
theorem slotB_take (sl : List Int) (k : Nat) (h : k < sl.length) : slotB (sl.take (k + 1)) = slotB (sl.take k) ++ lows (sl.getD k 0) 2 := by
 unfold slotB
 rw [List.take_succ_eq_append_getElem h, List.flatMap_append]
 simp [h]
def encB (sum : List Int) (lsn num bot : Int) (sl raw : List Int) : List Int := cont (headB sum lsn num bot ++ slotB sl) raw
theorem encB_length {sum : List Int} {lsn num bot : Int} {sl raw : List Int} (h1 : sum.length = 4) (h2 : sl.length = 64) (h3 : raw.length = 4096) : (encB sum lsn num bot sl raw).length = 4096 := by
 unfold encB
 rw [cont_length, h3]
 rw [List.length_append, headB_length _ _ _ _ h1, slotB_length, h2, h3]
 decide
section
variable {P : Program} {ops : Array Oper} {o : Oper} {a : Act} {w : World} {K : Act → World → Prop} {Q : Exit → Act → World → Prop} {E : Prop}
theorem step_copy_blk {B off dl dc sl sc : Nat} {e tb : TypeId} {ad : Addr} {xs : List Value} (hgd : o.guard = none) (d s : Operand) (T : TypeId) (ho : o.op = .call { callee := .builtin .copy, args := #[d, s], argTypes := #[T, T] })
  (hu : P.underlying T = some (.slice tb)) (hsz : (P.info? tb).map (·.size) = some 1) (cs : List Value) (hb : Blk w B e xs) (hd : a.eval d = .slice (some ⟨B, off, none⟩) dl dc) (hs : a.eval s = .slice (some ad) sl sc)
  (hn : cs.length = Nat.min sl dl) (hsrc : ∀ j v, cs[j]? = some v → w.cell? (ad.add j) = some v) (hfit : off + cs.length ≤ xs.length) (h1 : ∀ v ∈ cs, v.oneCell' = true)
  (h : K (a.put o.dst (goInt cs.length)) (w.setCells B off cs)) :
  if Region.wanted o (yielded ops a.tmps) = true then Oper.wp P o a w K Q else E := by
 have hw : Region.wanted o (yielded ops a.tmps) = true := by simp [Region.wanted, hgd]
 rw [if_pos hw]
 have hrun := run_copy_cells (P := P) w T T o.type tb B off dl dc ad sl sc cs hu hsz hn hsrc (fun j hj => by rw [hb.cell, List.getElem?_eq_getElem (by omega)]; rfl) (fun j _ => hb.frozen _) h1
 unfold Oper.wp
 simp [execOp, ho, resolve, invoke, builtin, hd, hs, hrun, Result.andThen]
 exact h
end
theorem byte_size : (Try.prog.info? 5).map (·.size) = some 1 := by
 obtain ⟨i0, hi, hz0, hz1, hz2⟩ := info_parts Try.infoByte'
 simp [hi, hz1]
set_option maxRecDepth 100000 in
theorem slot_at (sl : List Int) (hl : sl.length = 64) (k : Nat) (hk : k < 32) (w : World) : (Instr.index 71 (.agg (vals .i64 sl).toArray) (.int .i64 k)).run Try.prog w = .ok (.agg #[.int .i64 (sl.getD (2 * k) 0), .int .i64 (sl.getD (2 * k + 1) 0)]) w := by
 have hz : ∀ w, (sizeOf 69).run Try.prog w = .ok 2 w := by
  have h : (Try.prog.info? 69).map (·.size) = some 2 := by kernel_rfl
  intro w
  cases hq : Try.prog.info? 69 with
  | none => simp [hq] at h
  | some i =>
   have hi : i.size = 2 := by simpa [hq] using h
   simp [sizeOf, typeInfo, hq, hi]
 have h1 : (k : Int) < 32 := by omega
 simp [Instr.index, run_underlying Try.underlying71, asIntOf, hz, h1, go_sem]
 rw [if_pos hk]
 have hv : (vals .i64 sl).length = 64 := by rw [vals_length, hl]
 rw [Nat.mul_comm k 2, List.drop_eq_getElem_cons (by omega : 2 * k < (vals .i64 sl).length), List.drop_eq_getElem_cons (by omega : 2 * k + 1 < (vals .i64 sl).length)]
 simp [vals, List.getElem?_eq_getElem (show 2 * k < sl.length by omega), List.getElem?_eq_getElem (show 2 * k + 1 < sl.length by omega)]
theorem write_more {w : World} {B : Nat} {e : TypeId} {A raw : List Int} (o n c : Nat) (x : Int) (hb : Blk w B e (vals .u8 (cont A raw))) (ho : o = A.length) (hl : o + n ≤ raw.length) (hm : raw.length = 4096) (h0 : 0 ≤ x) (h1 : x ≤ 9223372036854775807) :
  Calls Try.prog 59 #[.slice (some ⟨B, o, none⟩) n c, .int .i64 x] w fun e' w' => e' = .returned (.tuple #[]) ∧ Blk w' B e (vals .u8 (cont (A ++ lows x n) raw)) ∧ Kept (fun b => b = B) w w' := by
 refine (writeNumber_any B o n c e _ x w hb (by rw [vals_length, cont_length _ _ (by omega)]; exact hl) h0 h1 (by omega)).mono ?_
 rintro e' w' ⟨rfl, hb', hk⟩
 exact ⟨rfl, Blk.more o (lows x n) hb' ho (by rw [lows_length]; omega), hk⟩
structure Num3 (lsn num bot : Int) (sl : List Int) : Prop where
 a : 0 ≤ lsn ∧ lsn ≤ 9223372036854775807
 b : 0 ≤ num ∧ num ≤ 9223372036854775807
 c : 0 ≤ bot ∧ bot ≤ 9223372036854775807
 d : ∀ x ∈ sl, 0 ≤ x ∧ x ≤ 9223372036854775807
theorem Num3.at {lsn num bot : Int} {sl : List Int} (h : Num3 lsn num bot sl) (k : Nat) : 0 ≤ sl.getD k 0 ∧ sl.getD k 0 ≤ 9223372036854775807 := by
 by_cases hk : k < sl.length
 ·have : sl.getD k 0 = sl[k] := by simp [hk]
  rw [this]
  exact h.d _ (List.getElem_mem hk)
 ·simp [List.getD, List.getElem?_eq_none (show sl.length ≤ k by omega)]
structure EncS (w wx : World) (B : Nat) (sum : List Int) (lsn num bot : Int) (sl raw A : List Int) : Prop where
 sp : SP wx B sum lsn num bot sl raw
 arr : Blk wx (w.heap.size + 1) 58 (vals .u8 (cont A raw))
 res : Blk wx w.heap.size 58 Try.zeroCells58.toList
 same : Same w wx
 sz : w.heap.size + 2 ≤ wx.heap.size
 lt : B < w.heap.size
theorem EncS.next {w wx wy : World} {B : Nat} {sum : List Int} {lsn num bot : Int} {sl raw A A' : List Int} (h : EncS w wx B sum lsn num bot sl raw A) (hk : Kept (fun b => b = w.heap.size + 1) wx wy) (hb : Blk wy (w.heap.size + 1) 58 (vals .u8 (cont A' raw))) : EncS w wy B sum lsn num bot sl raw A' :=
 have hlt := h.lt
 ⟨h.sp.kept hk (by omega), hb, h.res.kept hk (by omega), h.same.next hk (fun i hi e => by omega), Nat.le_trans h.sz hk.size, h.lt⟩
theorem EncS.on {w wx wy : World} {B : Nat} {sum : List Int} {lsn num bot : Int} {sl raw A : List Int} (h : EncS w wx B sum lsn num bot sl raw A) (hk : Same wx wy) : EncS w wy B sum lsn num bot sl raw A :=
 ⟨h.sp.same hk, h.arr.same hk, h.res.same hk, h.same.trans hk, Nat.le_trans h.sz hk.size, h.lt⟩
theorem encode_any (B : Nat) (sum : List Int) (lsn num bot : Int) (sl raw : List Int) (w : World) (hp : SP w B sum lsn num bot sl raw) (hn : Num3 lsn num bot sl) :
  Calls Try.prog 45 #[.pointer (some ⟨B, 0, none⟩)] w fun e w' => e = .returned (.agg (vals .u8 (encB sum lsn num bot sl raw)).toArray) ∧ Same w w' := by
 have hBw := hp.blk.lt
 have hl3 := hp.l3
 have HP := (show Hid (SP w B sum lsn num bot sl raw) from hp)
 have HN := (show Hid (Num3 lsn num bot sl) from hn)
 have hz80 : Try.zeroCells58.toList.length = 4096 := by rw [Array.length_toList]; exact Try.zeroCells58_size
 have hrl : (vals .u8 raw).length = 4096 := by rw [vals_length, hl3]
 have HRG := (show Hid ((w.alloc (.cells Try.zeroCells58 58)).rangeAt B 71 (vals .u8 raw)) from (hp.same ((Kept.refl _ _).alloc _)).rawRange)
 have HI := (show Hid ((Try.prog.info? 58).map (·.size) = some (vals .u8 raw).length) from (by rw [hrl]; exact page_info : (Try.prog.info? 58).map (·.size) = some (vals .u8 raw).length))
 have HI2 := (show Hid ((Try.prog.info? 58).map (·.size) = some (vals .u8 raw).toArray.size) from (by rw [List.size_toArray]; exact HI.out : (Try.prog.info? 58).map (·.size) = some (vals .u8 raw).toArray.size))
 have HONE := (show Hid ((vals .u8 raw).toArray.all (·.oneCell') = true) from all_oneCell_toArray vals_one)
 obtain ⟨cs, hcs⟩ : ∃ cs : List Value, vals .u8 raw = cs := ⟨_, rfl⟩
 have HCS := (show Hid (vals .u8 raw = cs) from hcs)
 have HT := (show Hid (((w.alloc (.cells Try.zeroCells58 58)).alloc (.cells Try.zeroCells58 58)).there (w.heap.size + 1) 0 (vals .u8 raw).toArray.size) from by
  have h := Blk.new (w.alloc (.cells Try.zeroCells58 58)) Try.zeroCells58 58
  rw [World.size_alloc] at h
  exact h.there 0 _ (by rw [List.size_toArray, hrl, hz80]; decide))
 rw [hcs] at HRG HI HI2 HONE HT
 clear hcs hp hn hrl
 go_enter Try.func45, Try.ntmps45
 go_wp2_with (first | (refine wpList_load_mid rfl 58 _ rfl B 71 rfl cs _ HRG.out Try.underlying58 rfl HI.out ?_) | (refine wpList_store_mid rfl 58 _ _ rfl (w.heap.size + 1) 0 cs.toArray rfl rfl HT.out HI2.out HONE.out ?_))
 obtain ⟨w1, hw1⟩ : ∃ w1, ((w.alloc (.cells Try.zeroCells58 58)).alloc (.cells Try.zeroCells58 58)).setCells (w.heap.size + 1) 0 cs = w1 := ⟨_, rfl⟩
 have HE1 := (show Hid (EncS w w1 B sum lsn num bot sl raw ([])) from by
  rw [← hw1, ← HCS.out]
  have ha := Blk.new (w.alloc (.cells Try.zeroCells58 58)) Try.zeroCells58 58
  rw [World.size_alloc] at ha
  have hb := ha.setCells (vals .u8 raw) 0 (by rw [hz80, vals_length, hl3]; decide)
  rw [lay_all _ _ (by rw [hz80, vals_length, hl3])] at hb
  have hk0 : Same w ((w.alloc (.cells Try.zeroCells58 58)).alloc (.cells Try.zeroCells58 58)) := ((Kept.refl _ _).alloc _).alloc _
  have hk1 := Kept.setCells (R := fun b => b = w.heap.size + 1) (a := (w.alloc (.cells Try.zeroCells58 58)).alloc (.cells Try.zeroCells58 58)) (B := w.heap.size + 1) (.inr rfl) (vals .u8 raw) 0 (Kept.refl _ _)
  refine ⟨(HP.out.same hk0).kept hk1 (by omega), by rw [cont_nil]; exact hb, (((Blk.new w _ _).alloc _).kept hk1 (by omega)), hk0.next hk1 (fun i hi e => by omega), ?_, hBw⟩
  have := hk1.size
  simp at this
  omega)
 rw [hw1]
 clear hw1 HRG HT HONE HI HI2 HCS hz80
 have hS : (fun _ : World => True) w1.drew := by trivial
 refine wp_region_V (fun _ : World => True) 99 6 rfl (by kernel_rfl) ?_
 refine tk 0 11 hS ?_
 refine tk 1 12 hS ?_
 refine tk 2 13 hS ?_
 refine tk 3 14 hS ?_
 refine tk 4 15 hS ?_
 refine wpAnyV_one (i := 5) (by kernel_rfl) rfl (fun K hK => ?_)
 have hE := HE1.out.on (Kept.refl _ _).drew
 have hsl4 : (vals .u8 sum).length = 4 := by rw [vals_length, hE.sp.l1]
 refine step_copy_blk (by rfl) _ _ 22 (by rfl) Try.underlying22 byte_size (vals .u8 sum) hE.arr (by rfl) (by rfl) (by rw [hsl4]; decide) (fun j u hu => ?_) (by rw [hsl4, vals_length, cont_length _ _ (by simp), hl3]; decide) vals_one ?_
 ·have hj : j < 4 := by have := (List.getElem?_eq_some_iff.1 hu).1; rwa [hsl4] at this
  rw [addr_add, Nat.zero_add, hE.sp.sumAt j hj, ← hu, vals_at _ _ _ (by rw [hE.sp.l1]; exact hj)]
 have hb2 := hE.arr.setCells (vals .u8 sum) 0 (by rw [hsl4, vals_length, cont_length _ _ (by simp), hl3]; decide)
 have hb3 := Blk.more 0 sum hb2 rfl (by rw [hE.sp.l1, hl3]; decide)
 have hk2 := Kept.setCells (R := fun b => b = w.heap.size + 1) (a := w1.drew) (B := w.heap.size + 1) (.inr rfl) (vals .u8 sum) 0 (Kept.refl _ _)
 obtain ⟨w2, hw2⟩ : ∃ w2, w1.drew.setCells (w.heap.size + 1) 0 (vals .u8 sum) = w2 := ⟨_, rfl⟩
 rw [hw2] at hb3 hk2 ⊢
 have HE2 := (show Hid (EncS w w2 B sum lsn num bot sl raw ([] ++ sum)) from hE.next hk2 hb3)
 clear hw2
 clear hb2 hb3 hk2 hE hS HE1
 rw [hsl4]
 show K (Act.put _ (some 16) (.int .i64 4)) _
 refine hK.out _ _ (fun _ => trivial) ?_
 clear hK K
 refine wpAnyV_done (by kernel_rfl) ?_
 try simp only [Act.put, sA, s0, sS]
 go_wp2_with fail
 have hE := HE2.out.on (Kept.refl _ _).drew
 have hS : (fun wx : World => wx.cell? ⟨B, 4, none⟩ = some (.int .i64 lsn)) w2.drew := by exact hE.sp.num3.1
 refine wp_region_V (fun wx : World => wx.cell? ⟨B, 4, none⟩ = some (.int .i64 lsn)) 99 6 rfl (by kernel_rfl) ?_
 refine tk 0 17 hS ?_
 refine tk 1 18 hS ?_
 refine tk 2 19 hS ?_
 refine tk 3 20 hS ?_
 refine tk 4 21 hS ?_
 refine wpAnyV_one (i := 5) (by kernel_rfl) rfl (fun K hK => ?_)
 go_simp
 have hc := write_more 4 8 4092 lsn hE.arr (by simp [hE.sp.l1, lows_length]) (by rw [hl3]; decide) hl3 HN.out.a.1 HN.out.a.2
 with_reducible refine hc.mono ?_
 rintro e w3 ⟨rfl, hb, hk⟩
 have HE3 := (show Hid (EncS w w3 B sum lsn num bot sl raw ([] ++ sum ++ lows lsn 8)) from hE.next hk hb)
 have hS2 : (fun wx : World => wx.cell? ⟨B, 4, none⟩ = some (.int .i64 lsn)) w3 := HE3.out.sp.num3.1
 clear hb hk hE hc hS
 refine hK.out _ _ (fun _ => hS2) ?_
 clear hK K hS2 HE2
 refine wpAnyV_done (by kernel_rfl) ?_
 try simp only [Act.put, sA, s0, sS]
 go_wp2_with fail
 have hE := HE3.out.on (Kept.refl _ _).drew
 have hS : (fun wx : World => wx.cell? ⟨B, 5, none⟩ = some (.int .i64 num)) w3.drew := by exact hE.sp.num3.2.1
 refine wp_region_V (fun wx : World => wx.cell? ⟨B, 5, none⟩ = some (.int .i64 num)) 99 6 rfl (by kernel_rfl) ?_
 refine tk 0 23 hS ?_
 refine tk 1 24 hS ?_
 refine tk 2 25 hS ?_
 refine tk 3 26 hS ?_
 refine tk 4 27 hS ?_
 refine wpAnyV_one (i := 5) (by kernel_rfl) rfl (fun K hK => ?_)
 go_simp
 have hc := write_more 12 4 4084 num hE.arr (by simp [hE.sp.l1, lows_length]) (by rw [hl3]; decide) hl3 HN.out.b.1 HN.out.b.2
 with_reducible refine hc.mono ?_
 rintro e w4 ⟨rfl, hb, hk⟩
 have HE4 := (show Hid (EncS w w4 B sum lsn num bot sl raw ([] ++ sum ++ lows lsn 8 ++ lows num 4)) from hE.next hk hb)
 have hS2 : (fun wx : World => wx.cell? ⟨B, 5, none⟩ = some (.int .i64 num)) w4 := HE4.out.sp.num3.2.1
 clear hb hk hE hc hS
 refine hK.out _ _ (fun _ => hS2) ?_
 clear hK K hS2 HE3
 refine wpAnyV_done (by kernel_rfl) ?_
 try simp only [Act.put, sA, s0, sS]
 go_wp2_with fail
 have hE := HE4.out.on (Kept.refl _ _).drew
 have hS : (fun wx : World => wx.cell? ⟨B, 6, none⟩ = some (.int .i64 bot)) w4.drew := by exact hE.sp.num3.2.2
 refine wp_region_V (fun wx : World => wx.cell? ⟨B, 6, none⟩ = some (.int .i64 bot)) 99 6 rfl (by kernel_rfl) ?_
 refine tk 0 29 hS ?_
 refine tk 1 30 hS ?_
 refine tk 2 31 hS ?_
 refine tk 3 32 hS ?_
 refine tk 4 33 hS ?_
 refine wpAnyV_one (i := 5) (by kernel_rfl) rfl (fun K hK => ?_)
 go_simp
 have hc := write_more 16 2 4080 bot hE.arr (by simp [hE.sp.l1, lows_length]) (by rw [hl3]; decide) hl3 HN.out.c.1 HN.out.c.2
 with_reducible refine hc.mono ?_
 rintro e w5 ⟨rfl, hb, hk⟩
 have HE5 := (show Hid (EncS w w5 B sum lsn num bot sl raw ([] ++ sum ++ lows lsn 8 ++ lows num 4 ++ lows bot 2)) from hE.next hk hb)
 have hS2 : (fun wx : World => wx.cell? ⟨B, 6, none⟩ = some (.int .i64 bot)) w5 := HE5.out.sp.num3.2.2
 clear hb hk hE hc hS
 refine hK.out _ _ (fun _ => hS2) ?_
 clear hK K hS2 HE4
 refine wpAnyV_done (by kernel_rfl) ?_
 try simp only [Act.put, sA, s0, sS]
 have hc := write_more 18 2 4078 0 HE5.out.arr (by simp [HE5.out.sp.l1, lows_length]) (by rw [hl3]; decide) hl3 (by decide) (by decide)
 have HIs := (show Hid ((Try.prog.info? 71).map (·.size) = some (vals .i64 sl).length) from (by rw [vals_length, HP.out.l2]; exact (by kernel_rfl : (Try.prog.info? 71).map (·.size) = some 64) : (Try.prog.info? 71).map (·.size) = some (vals .i64 sl).length))
 obtain ⟨ss, hss⟩ : ∃ ss : List Value, vals .i64 sl = ss := ⟨_, rfl⟩
 have HSS := (show Hid (vals .i64 sl = ss) from hss)
 rw [hss] at HIs
 clear hss
 go_wp2_with (first
  | (go_at_call 59; refine hc.mono ?_; rintro e w6 ⟨rfl, hb6, hk6⟩; have HE6 := (show Hid (EncS w w6 B sum lsn num bot sl raw ([] ++ sum ++ lows lsn 8 ++ lows num 4 ++ lows bot 2 ++ lows 0 2)) from HE5.out.next hk6 hb6); have HRs := (show Hid (w6.rangeAt B 7 ss) from (by rw [← HSS.out]; exact HE6.out.sp.slRange : w6.rangeAt B 7 ss)); clear hb6 hk6 hc)
  | (refine wpList_load_mid rfl 71 _ rfl B 7 rfl ss _ HRs.out Try.underlying71 rfl HIs.out ?_))
 go_loopw [4, 5, 6, 41] (fun _ _ _ i wr => ∃ k : Nat, k ≤ 32 ∧ i = .int .i64 k ∧ Hid (EncS w wr B sum lsn num bot sl raw (headB sum lsn num bot ++ slotB (sl.take (2 * k))))) (fun _ _ _ i _ => 32 - (intOf i).toNat)
 case atStart => exact ⟨0, by omega, rfl, by simpa [slotB, headB] using HE6⟩
 case round =>
  obtain ⟨k, hk, rfl, HEr⟩ := hrel
  by_cases hlt : k < 32
  ·have hk2 : (k : Int) < 32 := by omega
   have hix := fun w => slot_at sl HP.out.l2 k hlt w
   rw [HSS.out] at hix
   have HXB := (show Hid (_) from HN.out.at (2 * k))
   have HYB := (show Hid (_) from HN.out.at (2 * k + 1))
   have HTk := (show Hid (slotB (sl.take (2 * (k + 1))) = slotB (sl.take (2 * k)) ++ lows (sl.getD (2 * k) 0) 2 ++ lows (sl.getD (2 * k + 1) 0) 2) from (by rw [show 2 * (k + 1) = 2 * k + 1 + 1 from by omega, slotB_take _ _ (by rw [HP.out.l2]; omega), slotB_take _ _ (by rw [HP.out.l2]; omega)] : slotB (sl.take (2 * (k + 1))) = _))
   have HTl := (show Hid ((slotB (sl.take (2 * k))).length = 4 * k) from (by rw [slotB_length, List.length_take, HP.out.l2]; omega : (slotB (sl.take (2 * k))).length = 4 * k))
   generalize sl.getD (2 * k) 0 = x at *
   generalize sl.getD (2 * k + 1) 0 = y at *
   have hlh := headB_length sum lsn num bot HP.out.l1
   go_wp2_with fail
   obtain ⟨oo, hoo⟩ : ∃ oo : Nat, 20 + 4 * k = oo := ⟨_, rfl⟩
   have e1 : (20 + (k : Int) * 4) = (oo : Int) := by omega
   rw [e1]
   have HE7 := (show Hid (EncS w (wr.alloc (.cells #[.int .i64 x, .int .i64 y] 69)) B sum lsn num bot sl raw (headB sum lsn num bot ++ slotB (sl.take (2 * k)))) from HEr.out.on ((Kept.refl _ _).alloc _))
   have hb7 := Blk.new wr #[.int .i64 x, .int .i64 y] 69
   have hwr := HEr.out.sz
   obtain ⟨w7, hw7⟩ : ∃ w7, wr.alloc (.cells #[.int .i64 x, .int .i64 y] 69) = w7 := ⟨_, rfl⟩
   rw [hw7] at HE7 hb7 ⊢
   have HB7 := (show Hid (Blk w7 wr.heap.size 69 [.int .i64 x, .int .i64 y]) from hb7)
   clear hw7 hb7
   have o1 : (oo : Int) + 2 ≤ 4096 := by omega
   have o2 : (0 : Int) ≤ (oo : Int) := by omega
   have o3 : IntKind.i64.wrap ((oo : Int) + 2) = (oo : Int) + 2 := by rw [IntKind.wrap_i64]; omega
   have o4 : (oo : Int) ≤ (oo : Int) + 2 := by omega
   have o5 : ((oo : Int) + 2).toNat = oo + 2 := by omega
   have o6 : oo + 2 - oo = 2 := by omega
   have o7 : oo < 4096 := by omega
   have o8 : ¬ 4096 = oo := by omega
   have p3 : IntKind.i64.wrap ((oo : Int) + 4) = (oo : Int) + 4 := by rw [IntKind.wrap_i64]; omega
   have p1 : (oo : Int) + 4 ≤ 4096 := by omega
   have p4 : (oo : Int) + 2 ≤ (oo : Int) + 4 := by omega
   have p2 : (0 : Int) ≤ (oo : Int) + 2 := by omega
   have p5 : ((oo : Int) + 4).toNat = oo + 4 := by omega
   have p6 : oo + 4 - (oo + 2) = 2 := by omega
   have p7 : oo + 2 < 4096 := by omega
   have p8 : ¬ 4096 = oo + 2 := by omega
   have hS : (fun wx : World => wx.cell? ⟨wr.heap.size, 0, none⟩ = some (.int .i64 x)) w7.drew := by (have h := HB7.out.drew.cell 0; simpa using h)
   refine wp_region_V (fun wx : World => wx.cell? ⟨wr.heap.size, 0, none⟩ = some (.int .i64 x)) 99 7 rfl (by kernel_rfl) ?_
   refine tk 0 48 hS ?_
   refine tk 1 49 hS ?_
   refine tk 2 50 hS ?_
   refine tk 3 51 hS ?_
   refine tk 4 52 hS ?_
   refine tk 5 53 hS ?_
   refine wpAnyV_one (i := 6) (by kernel_rfl) rfl (fun K hK => ?_)
   go_simp
   have hE := HE7.out.on (Kept.refl _ _).drew
   have hc := write_more oo 2 (4096 - oo) x hE.arr (by rw [List.length_append, hlh, HTl.out]; omega) (by rw [hl3]; omega) hl3 HXB.out.1 HXB.out.2
   with_reducible refine hc.mono ?_
   rintro e w8 ⟨rfl, hb, hk8⟩
   have HE8 := (show Hid (EncS w w8 B sum lsn num bot sl raw (headB sum lsn num bot ++ slotB (sl.take (2 * k)) ++ lows x 2)) from hE.next hk8 hb)
   have HB8 := (show Hid (Blk w8 wr.heap.size 69 [.int .i64 x, .int .i64 y]) from (HB7.out.drew.kept hk8 (by omega)))
   have hS2 : (fun wx : World => wx.cell? ⟨wr.heap.size, 0, none⟩ = some (.int .i64 x)) w8 := by have h := HB8.out.cell 0; simpa using h
   clear hb hk8 hE hc hS
   refine hK.out _ _ (fun _ => hS2) ?_
   clear hK K hS2 HE7 HB7
   refine wpAnyV_done (by kernel_rfl) ?_
   try simp only [Act.put, sA, s0, sS]
   go_wp2_with fail
   have hS : (fun wx : World => wx.cell? ⟨wr.heap.size, 1, none⟩ = some (.int .i64 y)) w8.drew := by (have h := HB8.out.drew.cell 1; simpa using h)
   refine wp_region_V (fun wx : World => wx.cell? ⟨wr.heap.size, 1, none⟩ = some (.int .i64 y)) 99 8 rfl (by kernel_rfl) ?_
   refine tk 0 55 hS ?_
   refine tk 1 56 hS ?_
   refine tk 2 57 hS ?_
   refine tk 3 58 hS ?_
   refine tk 4 59 hS ?_
   refine tk 5 60 hS ?_
   refine tk 6 61 hS ?_
   refine wpAnyV_one (i := 7) (by kernel_rfl) rfl (fun K hK => ?_)
   go_simp
   have hE := HE8.out.on (Kept.refl _ _).drew
   have hc := write_more (oo + 2) 2 (4094 - oo) y hE.arr (by rw [List.length_append, List.length_append, hlh, HTl.out, lows_length]; omega) (by rw [hl3]; omega) hl3 HYB.out.1 HYB.out.2
   with_reducible refine hc.mono ?_
   rintro e w9 ⟨rfl, hb, hk9⟩
   have HE9 := (show Hid (EncS w w9 B sum lsn num bot sl raw (headB sum lsn num bot ++ slotB (sl.take (2 * (k + 1))))) from (by rw [HTk.out, ← List.append_assoc, ← List.append_assoc]; exact hE.next hk9 hb))
   have hS2 : (fun wx : World => wx.cell? ⟨wr.heap.size, 1, none⟩ = some (.int .i64 y)) w9 := by have h := (HB8.out.drew.kept hk9 (by omega)).cell 1; simpa using h
   clear hb hk9 hE hc hS
   refine hK.out _ _ (fun _ => hS2) ?_
   clear hK K hS2 HE8 HB8
   refine wpAnyV_done (by kernel_rfl) ?_
   try simp only [Act.put, sA, s0, sS]
   go_wp2
   go_roundw
   case rel => exact ⟨k + 1, by omega, by go_num, HE9⟩
   case measure => simp [intOf]; omega
  ·obtain rfl : k = 32 := by omega
   have hA : headB sum lsn num bot ++ slotB (sl.take (2 * 32)) = headB sum lsn num bot ++ slotB sl := by rw [List.take_of_length_le (by rw [HP.out.l2]; decide)]
   have hE := HEr.out
   rw [hA] at hE
   have hel : (encB sum lsn num bot sl raw).length = 4096 := encB_length HP.out.l1 HP.out.l2 hl3
   have harr : Blk wr (w.heap.size + 1) 58 (vals .u8 (encB sum lsn num bot sl raw)) := hE.arr
   obtain ⟨ds, hds⟩ : ∃ ds : List Value, vals .u8 (encB sum lsn num bot sl raw) = ds := ⟨_, rfl⟩
   have hdl : ds.length = 4096 := by rw [← hds, vals_length, hel]
   have HDS := (show Hid (vals .u8 (encB sum lsn num bot sl raw) = ds) from hds)
   have HONE := (show Hid (ds.toArray.all (·.oneCell') = true) from (by rw [← hds]; exact all_oneCell_toArray vals_one : ds.toArray.all (·.oneCell') = true))
   rw [hds] at harr
   have hz80 : Try.zeroCells58.toList.length = 4096 := by rw [Array.length_toList]; exact Try.zeroCells58_size
   have HRG := (show Hid (wr.rangeAt (w.heap.size + 1) 0 ds) from harr.rangeAll)
   have HTH := (show Hid (wr.there w.heap.size 0 ds.toArray.size) from hE.res.there 0 _ (by rw [List.size_toArray, hdl, hz80]; decide))
   have hb5 := hE.res.setCells ds 0 (by rw [hdl, hz80]; decide)
   rw [lay_all _ _ (by rw [hdl, hz80])] at hb5
   have HRG2 := (show Hid ((wr.setCells w.heap.size 0 ds).rangeAt w.heap.size 0 ds) from hb5.rangeAll)
   have HI := (show Hid ((Try.prog.info? 58).map (·.size) = some ds.length) from (by rw [hdl]; exact page_info : (Try.prog.info? 58).map (·.size) = some ds.length))
   have HI2 := (show Hid ((Try.prog.info? 58).map (·.size) = some ds.toArray.size) from (by rw [List.size_toArray]; exact HI.out : (Try.prog.info? 58).map (·.size) = some ds.toArray.size))
   have HKe := (show Hid (Same w (wr.setCells w.heap.size 0 ds)) from Kept.setCells (.inl (Nat.le_refl _)) ds 0 hE.same)
   clear hds hdl hel harr hb5 hE hz80 HEr hA
   go_wp2_with (first | (refine wpList_load_mid rfl 58 _ rfl (w.heap.size + 1) 0 rfl ds _ HRG.out Try.underlying58 rfl HI.out ?_) | (refine wpList_store_mid rfl 58 _ _ rfl w.heap.size 0 ds.toArray rfl rfl HTH.out HI2.out HONE.out ?_))
   have hlv := run_loadVar_mid (P := Try.prog) _ w.heap.size 0 58 ds _ HRG2.out Try.underlying58 rfl HI.out
   refine bodyPost_ret (v := .agg ds.toArray) ?_ rfl ?_
   ·try simp only [Act.put, List.setIfInBounds_toArray, List.set_cons_zero, List.set_cons_succ]
    simp [results, Try.results45, asAddr, hlv]
   ·rw [HDS.out]
    exact ⟨rfl, HKe.out⟩
end Go.Proofs.Ytdachkojbceknaa
