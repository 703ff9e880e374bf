import Derived.Test.YtlmcaodiiadlkaaG01
import Derived.Test.YtlmcaodiiadlkaaG04
import Derived.Test.YtlmcaodiiadlkaaG00
import Derived.Deep.MidRow
import Derived.Deep.WholeRow
import Derived.Laws.IdiomCopy
import Derived.Great.BuildSlice
import Derived.Laws.BitsAllLaws
import Derived.Tactics
import Derived.Tactics2
import Derived.Defers
import Derived.Laws.Pointers
import Derived.Laws.LoneSync
import Derived.RegionTactic
import Derived.RegionCalls
namespace Go.Proofs.Ytlmcaodiiadlkaa
set_option linter.unusedVariables false
set_option maxRecDepth 100000
set_option maxHeartbeats 4000000
set_option linter.unusedSimpArgs false
open Go.RowKit
theorem addr_add (B o j : Nat) : (⟨B, o, none⟩ : Addr).add j = ⟨B, o + j, none⟩ := by unfold Addr.add; split <;> simp_all
theorem Blk.loads {P : Program} {w : World} {B : Nat} {e : TypeId} {xs : List Value} (h : Blk w B e xs) (o n : Nat) (hn : o + n ≤ xs.length) : (loadCellsFrom ⟨B, o, none⟩ 0 n #[]).run P w = .ok ((xs.drop o).take n).toArray w := by
 have hl : ((xs.drop o).take n).length = n := by simp; omega
 have := run_loadCells_list (P := P) w ⟨B, o, none⟩ ((xs.drop o).take n) (fun j v hv => by
  rw [addr_add, h.cell]
  have hj : j < n := by have := (List.getElem?_eq_some_iff.1 hv).1; omega
  rw [List.getElem?_take_of_lt hj, List.getElem?_drop] at hv
  exact hv)
 simpa [loadCells, hl] using this
theorem Blk.setCells {B : Nat} {e : TypeId} : ∀ (vs : List Value) (o : Nat) {w : World} {xs : List Value}, Blk w B e xs → o + vs.length ≤ xs.length → Blk (w.setCells B o vs) B e (lay xs o vs)
 | [], o, w, xs, h, _ => by rw [lay_nil]; exact h
 | v :: vs, o, w, xs, h, hl => by
  simp only [List.length_cons] at hl
  have := Blk.setCells vs (o + 1) (h.stored o v) (by rw [List.length_set]; omega)
  rw [lay_cons _ _ _ _ hl] at this
  exact this
theorem Kept.setCells {R : Nat → Prop} {a : World} {B : Nat} (hB : a.heap.size ≤ B ∨ R B) : ∀ (vs : List Value) (o : Nat) {b : World}, Kept R a b → Kept R a (b.setCells B o vs)
 | [], _, _, h => h
 | v :: vs, o, b, h => Kept.setCells hB vs (o + 1) (h.setCell (p := ⟨B, o, none⟩) hB v)
theorem Blk.range {w : World} {B : Nat} {e : TypeId} {xs : List Value} (h : Blk w B e xs) (o : Nat) (cs : List Value) (hc : ∀ j v, cs[j]? = some v → xs[o + j]? = some v) : w.rangeAt B o cs := fun j v hv => by
 rw [h.cell]
 exact hc j v hv
theorem Blk.rangeAll {w : World} {B : Nat} {e : TypeId} {xs : List Value} (h : Blk w B e xs) : w.rangeAt B 0 xs := h.range 0 xs (fun j v hv => by rw [Nat.zero_add]; exact hv)
theorem Blk.there {w : World} {B : Nat} {e : TypeId} {xs : List Value} (h : Blk w B e xs) (o n : Nat) (hn : o + n ≤ xs.length) : w.there B o n := fun j hj => ⟨by rw [h.cell, List.getElem?_eq_getElem (by omega)]; rfl, h.frozen _⟩
theorem Kept.ranges {w w' : World} {b o : Nat} {cs : List Value} (hk : Same w w') (h : w.rangeAt b o cs) : w'.rangeAt b o cs := fun j v hv => hk.cellOf (h j v hv) id
theorem seeD_snoc (s t : Int) (dur : List Int) (ds : List (Int × List Int)) (bs : List Int) : seeD s dur (ds ++ [(t, bs)]) = if t = s then bs else seeD s dur ds := by
 unfold seeD
 by_cases h : t = s
 ·subst h
  rw [lastP_snoc, if_pos rfl]
  rfl
 ·rw [lastP_append_none _ _ _ (fun p hp => by simp at hp; rw [hp]; exact h), if_neg h]
def SeenR (w w' : World) (dur : List Int) (ds : List (Int × List Int)) (v : Value) : Prop :=
 ∃ G us, v = .slice (some ⟨G, 0, none⟩) us.length us.length ∧ us.length = dur.length / 512 ∧ w.heap.size ≤ G ∧ Blk w' G 22 us ∧ (∀ i (h : i < us.length), Rd .u8 w us[i] (seeD (i : Int) dur ds)) ∧ Same w w'
theorem Try.infoBytes' : (Try.prog.info? 22).map (fun i => (i.zero, i.size, i.bytes)) = some (some (.slice none 0 0), 1, 24) := by kernel_rfl
theorem Blk.of_row {w : World} {base g n : Nat} {e : TypeId} {xs : List Value} (h : w.ownsRow base e 1 (.slice (some ⟨g, 0, none⟩) n n) n xs) : Blk w g e xs := by
 rcases h.2 with ⟨h, _⟩ | ⟨g', cap, cur, h, _, hg, _, _, hs, ht⟩
 ·cases h
 ·cases h
  have hl : cur.toList.length = n * 1 := by simpa using hs
  rw [List.take_of_length_le (by omega)] at ht
  unfold Blk
  rw [← ht]
  simpa using hg
theorem madeS (n : Nat) : (madeCells (Value.slice none 0 0).cells (n * 1)).toList = List.replicate n (Value.slice none 0 0) := by
 apply List.ext_getElem?
 intro j
 by_cases hj : j < n
 ·simp [madeCells, Value.cells, hj, Nat.mod_one]
 ·rw [List.getElem?_eq_none (by simp [madeCells]; omega), List.getElem?_eq_none (by simp; omega)]
def durU (b o c : Nat) (i : Nat) : Value := .slice (some ⟨b, o + i * 512, none⟩) 512 (c - i * 512)
def durUs (b o c k : Nat) : List Value := (List.range k).map (durU b o c)
theorem durUs_length (b o c k : Nat) : (durUs b o c k).length = k := by simp [durUs]
theorem durUs_step (b o c k n : Nat) (h : k < n) : (durUs b o c k ++ List.replicate (n - k) (Value.slice none 0 0)).set k (durU b o c k) = durUs b o c (k + 1) ++ List.replicate (n - (k + 1)) (Value.slice none 0 0) := by
 obtain ⟨m, hm⟩ : ∃ m, n - k = m + 1 := ⟨n - k - 1, by omega⟩
 rw [hm, List.set_append_right (h := by rw [durUs_length]; exact Nat.le_refl _), durUs_length, Nat.sub_self, List.replicate_succ, List.set_cons_zero, show n - (k + 1) = m from by omega]
 unfold durUs
 rw [List.range_succ, List.map_append, List.append_assoc]
 rfl
theorem seen_any (dv pv : Value) (dur : List Int) (ps : List PW) (w : World) (hV : Valid dur.length (dataP ps)) (hv : RdD w dv pv dur ps) :
  Calls Try.prog 36 #[.agg #[dv, pv]] w fun e w' => ∃ v, e = .returned v ∧ SeenR w w' dur (dataP ps) v := by
 obtain ⟨⟨h1, h2, h3, h4⟩, hall⟩ := hV
 rw [dataP_length] at h4
 have HALL : Hid (∀ k (h : k < ps.length), 0 ≤ ps[k].sec ∧ ps[k].sec < (dur.length / 512 : Nat) ∧ ps[k].bs.length = 512) := fun k h => hall (ps[k].sec, ps[k].bs) (List.mem_map.2 ⟨ps[k], List.getElem_mem h, rfl⟩)
 have hn2 := hv.pend.len
 have hm := hv.dur.1
 unfold maxLen at hn2
 obtain ⟨N, hN⟩ : ∃ N, dur.length / 512 = N := ⟨_, rfl⟩
 have hlen : dur.length = N * 512 := by omega
 obtain ⟨b0, o0, c0, rfl, hl0, hc0⟩ : ∃ b off c, dv = .slice (some ⟨b, off, none⟩) dur.length c ∧ dur.length ≤ c ∧ ∀ i, i < dur.length → w.cell? ⟨b, off + i, none⟩ = some (.int .u8 (dur.getD i 0)) := by
  rcases hv.dur.2 with ⟨rfl, _⟩ | h
  ·simp at h2
  ·exact h
 have HC0 := hid hc0
 obtain ⟨a2, c2, rfl⟩ := hv.pend.form
 have HP := hid hv.pend
 obtain ⟨i0, hi, hz0, hz1, hz2⟩ := info_parts Try.infoBytes'
 have HK0 := hid (sameA w [.slice (some ⟨b0, o0, none⟩) dur.length c0, .slice a2 ps.length c2] 32)
 have HB0 := hid (Blk.newL w [.slice (some ⟨b0, o0, none⟩) dur.length c0, .slice a2 ps.length c2] 32)
 have k0 := fun wx => countSectors_any (some ⟨b0, o0, none⟩) dur.length c0 a2 ps.length c2 wx hm
 rw [hN] at h2 h3 k0 HALL
 have HLN := hid hlen
 have HN := hid hN
 clear hv hc0 hall hN h1
 generalize hdl : dur.length = L at hm hlen hl0 HLN HK0 HB0 k0 ⊢
 have HDL := hid hdl
 clear hdl
 subst hlen
 go_enter Try.func36, Try.ntmps36
 go_wp2_with fail
 refine (k0 _).mono ?_
 rintro e w1 ⟨rfl, hw1⟩
 have hk1 : Same (w.alloc (.cells #[.slice (some ⟨b0, o0, none⟩) (N * 512) c0, .slice a2 ps.length c2] 32)) w1 := by rw [hw1]; exact (Kept.refl _ _).alloc _
 have HK1 := hid (HK0.out.trans hk1)
 have HB1 := hid (HB0.out.same hk1)
 clear hk1 hw1 k0 HK0 HB0
 go_wp2_with (at_make; go_loud (refine wpList_make_full _ rfl (.tmp 8) (.tmp 8) 62 rfl 0 22 i0 (.slice none 0 0) 1 Try.underlying62 hi hz0 hz1 .i64 .i64 _ _ N rfl rfl (by simp) (by simp) (by rw [hz2]; omega) (by unfold maxLen; omega) (Nat.zero_le _) ?_); intro w2 hown hgrow; have HG2 := (show Hid (Blk w2 w1.heap.size 22 (List.replicate N (Value.slice none 0 0))) from (by rw [madeS] at hown; exact Blk.of_row hown)); have HK2 : Hid (Same w1 w2) := Kept.of_grown hgrow (fun k e => by cases e); clear hown hgrow)
 have hzw : w.heap.size < w1.heap.size := HB1.out.lt
 have HB2 := hid (HB1.out.same HK2.out)
 go_loopw [12] (fun i wr => ∃ (k : Nat), k ≤ N ∧ i = .int .i64 (k : Int) ∧ Hid (Blk wr w1.heap.size 22 (durUs b0 o0 c0 k ++ List.replicate (N - k) (Value.slice none 0 0))) ∧ Hid (Blk wr w.heap.size 32 [.slice (some ⟨b0, o0, none⟩) (N * 512) c0, .slice a2 ps.length c2]) ∧ Hid (Same w1 wr)) (fun i _ => N - (intOf i).toNat)
 case atStart => exact ⟨0, Nat.zero_le _, rfl, by simpa [durUs, Hid] using HG2.out, HB2, HK2⟩
 case round =>
  obtain ⟨k, hk, rfl, HG, HB, HK⟩ := hrel
  clear HG2 HB2 HK2 HB1
  by_cases hlt : k < N
  case pos =>
   obtain ⟨d0, d1⟩ := HB.out.all2
   have e1 : ((k : Int) * 512).toNat = k * 512 := by omega
   have e2 : (((k : Int) + 1) * 512).toNat = k * 512 + 512 := by omega
   have g1 : ((k : Int) + 1) * 512 ≤ (c0 : Int) := by omega
   have g2 : 0 ≤ ((k : Int) + 1) * 512 := by omega
   have g3 : (k : Int) * 512 ≤ ((k : Int) + 1) * 512 := by omega
   have hcl := HG.out.cell k
   have hfz := HG.out.frozen k
   rw [List.getElem?_append_right (by rw [durUs_length]; exact Nat.le_refl _), durUs_length, Nat.sub_self, List.getElem?_replicate, if_pos (by omega)] at hcl
   have HST := hid (HG.out.stored k (durU b0 o0 c0 k))
   rw [durUs_step b0 o0 c0 k N hlt] at HST
   unfold durU at HST
   go_wp2
   go_roundw
   case rel => exact ⟨k + 1, by omega, by go_num, HST, HB.out.other (by dsimp only; omega) _, HK.out.setCell (.inl (Nat.le_refl _)) _⟩
   case measure => simp [intOf]; omega
  obtain rfl : k = N := by omega
  have hzr := HK.out.size
  have HG1 := HG.out
  rw [Nat.sub_self, List.replicate_zero, List.append_nil] at HG1
  have HUS : Hid (∀ i (h : i < (durUs b0 o0 c0 k).length), Rd .u8 w (durUs b0 o0 c0 k)[i] (seeD (i : Int) dur (dataP (ps.take 0)))) := fun i h => by
   rw [durUs_length] at h
   have e : (durUs b0 o0 c0 k)[i]'(by rw [durUs_length]; exact h) = durU b0 o0 c0 i := by simp [durUs]
   rw [e]
   have hs : seeD (i : Int) dur (dataP (ps.take 0)) = (dur.drop (i * 512)).take 512 := by simp [seeD, dataP, lastP]
   rw [hs]
   exact Rd.part (fun j hj => HC0.out j hj) (i * 512) 512 (by rw [HDL.out]; omega) rfl (by omega) (by simp [maxLen])
  have HGF := hid HG1
  clear HG1 HG
  obtain ⟨d0, d1⟩ := HB.out.all2
  go_wp2_with fail
  go_loopw [30] (fun i wx => ∃ (j : Nat) (us : List Value), j ≤ ps.length ∧ i = .int .i64 (j : Int) ∧ Hid (us.length = k) ∧ Hid (Blk wx w1.heap.size 22 us) ∧ Hid (∀ i (h : i < us.length), Rd .u8 w us[i] (seeD (i : Int) dur (dataP (ps.take j)))) ∧ Hid (Same w1 wx)) (fun i _ => ps.length - (intOf i).toNat)
  case atStart => exact ⟨0, _, Nat.zero_le _, rfl, durUs_length _ _ _ _, HGF, HUS, HK⟩
  case round =>
   clear HGF HUS d0 d1 HB HK
   obtain ⟨j, us, hj, rfl, HUL, HG, HUS, HK⟩ := hrel
   by_cases hlt : j < ps.length
   case neg =>
    obtain rfl : j = ps.length := by omega
    rw [List.take_length] at HUS
    go_wp2
    go_ret
    exact ⟨_, rfl, w1.heap.size, us, by rw [HUL.out]; rfl, by rw [HUL.out, HN.out], by omega, HG.out, HUS.out, HK1.out.trans HK.out⟩
   obtain ⟨b2, off2, rfl, hc⟩ : ∃ b off, a2 = some ⟨b, off, none⟩ ∧ ∀ i (h : i < ps.length), w.cell? ⟨b, off + i * 2, none⟩ = some (.int .i64 ps[i].sec) ∧ w.cell? ⟨b, off + i * 2 + 1, none⟩ = some ps[i].v := by
    rcases HP.out.row with ⟨h, _⟩ | ⟨b, off, c, e, hc⟩
    ·rw [h] at hlt; simp at hlt
    ·simp only [Value.slice.injEq, true_and] at e
     obtain ⟨rfl, rfl⟩ := e
     exact ⟨b, off, rfl, hc⟩
   have q1 := (HK1.out.trans HK.out).cellOf (hc j hlt).1 id
   have q2 := (HK1.out.trans HK.out).cellOf (hc j hlt).2 id
   obtain ⟨s1, s2, s3⟩ := HALL.out j hlt
   obtain ⟨sn, hsn⟩ : ∃ sn : Nat, ps[j].sec = sn := ⟨ps[j].sec.toNat, by omega⟩
   have HD := hid (HP.out.data _ (List.getElem_mem hlt))
   obtain ⟨a5, c5, e5⟩ := HD.out.form
   have hstep : ps.take (j + 1) = ps.take j ++ [ps[j]] := List.take_succ_eq_append_getElem hlt
   have hdat : dataP (ps.take (j + 1)) = dataP (ps.take j) ++ [((sn : Int), ps[j].bs)] := by
    rw [hstep]; unfold dataP; rw [List.map_append]; simp [hsn]
   have HDAT := hid hdat
   have HD5 := HD.out
   rw [e5, s3] at HD5
   have HDV := hid HD5
   rw [hsn] at q1 s1 s2
   rw [e5, s3] at q2
   have hsk : sn < k := by omega
   have hcl := HG.out.cell sn
   have hfz := HG.out.frozen sn
   rw [List.getElem?_eq_getElem (by rw [HUL.out]; exact hsk)] at hcl
   generalize us[sn]'(by rw [HUL.out]; exact hsk) = uold at hcl
   have hzk := HK.out.size
   have hz1 := HG.out.lt
   clear hc hstep hdat e5 hsn HD5 HD s1 s2 s3
   go_wp2
   go_roundw
   case rel =>
    refine ⟨j + 1, us.set sn (.slice a5 512 c5), by omega, by go_num, by rw [List.length_set]; exact HUL.out, ?_, fun i h => ?_, ?_⟩
    ·first | exact (HG.out.stored sn _).alloc _ | exact (HG.out.alloc _).stored sn _
    ·rw [HDAT.out, seeD_snoc]
     by_cases e : (sn : Int) = (i : Int)
     ·rw [if_pos e]
      obtain rfl : sn = i := by omega
      rw [List.getElem_set_self]
      exact HDV.out
     ·rw [if_neg e, List.getElem_set_ne (by omega)]
      exact HUS.out i (by rwa [List.length_set] at h)
    ·first | exact (HK.out.setCell (.inl (Nat.le_refl _)) _).alloc _ | exact (HK.out.alloc _).setCell (.inl (Nat.le_refl _)) _
   case measure => simp [intOf]; omega
theorem run_copy_m {P : Program} (w : World) (dT sT ty elem : TypeId) (m b o dLen dCap : Nat) (a : Addr) (sLen sCap c : Nat) (cs : List Value)
  (hu : P.underlying dT = some (.slice elem)) (hs : (P.info? elem).map (·.size) = some m) (hc0 : Nat.min sLen dLen = c) (hn : c * m = cs.length)
  (hsrc : ∀ j v, cs[j]? = some v → w.cell? (a.add j) = some v) (hc : ∀ j, j < cs.length → (w.cell? ⟨b, o + j, none⟩).isSome = true) (hf : ∀ j, j < cs.length → w.frozen? ⟨b, o + j, none⟩ = false) (h1 : ∀ v ∈ cs, v.oneCell' = true) :
  (Builtin.copy_ #[dT, sT] ty #[.slice (some ⟨b, o, none⟩) dLen dCap, .slice (some a) sLen sCap]).run P w = .ok (goInt c) (w.setCells b o cs) := by
 have hl := run_loadCells_list (P := P) w a cs hsrc
 have hst := run_storeCells_cells (P := P) b o cs 0 w (by simpa using hc) (by simpa using hf) h1
 cases hq : P.info? elem with
 | none => simp [hq] at hs
 | some i =>
  have hi : i.size = m := by simpa [hq] using hs
  simp [Builtin.copy_, run_underlying hu, Builtin.lenOf, Builtin.firstCells, sizeOf, typeInfo, hq, hi, hc0, hn, hl, hst]
section
variable {P : Program} {ops : Array Oper} {o : Oper} {a : Act} {w : World} {K : Act → World → Prop} {Q : Exit → Act → World → Prop} {E : Prop}
theorem step_copy_m {B off dl dc sl sc m c : Nat} {e tb : TypeId} {ad : Addr} {xs : List Value} (hgd : o.guard = none) (d s : Operand) (T : TypeId) (ho : o.op = .call { callee := .builtin .copy, args := #[d, s], argTypes := #[T, T] })
  (hu : P.underlying T = some (.slice tb)) (hsz : (P.info? tb).map (·.size) = some m) (cs : List Value) (hb : Blk w B e xs) (hd : a.eval d = .slice (some ⟨B, off, none⟩) dl dc) (hs : a.eval s = .slice (some ad) sl sc)
  (hc0 : Nat.min sl dl = c) (hn : c * m = cs.length) (hsrc : ∀ j v, cs[j]? = some v → w.cell? (ad.add j) = some v) (hfit : off + cs.length ≤ xs.length) (h1 : ∀ v ∈ cs, v.oneCell' = true)
  (h : K (a.put o.dst (goInt c)) (w.setCells B off cs)) :
  if Region.wanted o (yielded ops a.tmps) = true then Oper.wp P o a w K Q else E := by
 have hw : Region.wanted o (yielded ops a.tmps) = true := by simp [Region.wanted, hgd]
 rw [if_pos hw]
 have hrun := run_copy_m (P := P) w T T o.type tb m B off dl dc ad sl sc c cs hu hsz hc0 hn hsrc (fun j hj => by rw [hb.cell, List.getElem?_eq_getElem (by omega)]; rfl) (fun j _ => hb.frozen _) h1
 unfold Oper.wp
 simp [execOp, ho, resolve, invoke, builtin, hd, hs, hrun, Result.andThen]
 exact h
end
theorem lay_join (A C : List Int) (m : Nat) (h : C.length ≤ m) : lay (vals .u8 (A ++ List.replicate m 0)) A.length (vals .u8 C) = vals .u8 ((A ++ C) ++ List.replicate (m - C.length) 0) := by
 unfold lay
 simp only [vals, List.length_map, List.map_append, List.map_replicate]
 rw [List.take_append_of_le_length (by simp), List.take_of_length_le (by simp), List.drop_append, List.drop_eq_nil_of_le (by simp), List.drop_replicate]
 simp
theorem join_any (G n : Nat) (us : List Value) (F : Nat) (S : Nat → List Int) (w : World) (hG : Blk w G 22 us) (hF : F + 8 ≤ n) (hm : n ≤ 1024) (hS8 : ∀ i, i < 8 → (S i).length = 512) (hR : ∀ i, i < 8 → ∃ u, us[F + i]? = some u ∧ Rd .u8 w u (S i)) :
  Calls Try.prog 35 #[.slice (some ⟨G, 0, none⟩) n n, .int .i64 (F : Int)] w fun e w' => e = .returned (.agg (vals .u8 (joinS S 8)).toArray) ∧ Same w w' := by
 have HG := hid hG
 have HS8 := hid hS8
 have HR := hid hR
 have hGl := hG.lt
 have hj : (Try.prog.info? 5).map (·.size) = some 1 := by kernel_rfl
 have hz8 : Try.zeroCells60.toList = vals .u8 (List.replicate 4096 0) := by kernel_rfl
 clear hG hS8 hR
 go_enter Try.func35, Try.ntmps35
 go_wp2_with fail
 obtain ⟨w1, hw1⟩ : ∃ w1, ((w.alloc (.cells Try.zeroCells60 60)).alloc (.cells Try.zeroCells60 60)) = w1 := ⟨_, rfl⟩
 have HB1 := (show Hid (Blk w1 w.heap.size 60 (vals .u8 (List.replicate 4096 0))) from by
  rw [← hw1, ← hz8]
  exact (Blk.new w Try.zeroCells60 60).alloc _)
 have HB2 := (show Hid (Blk w1 (w.heap.size + 1) 60 (vals .u8 (List.replicate 4096 0))) from by
  rw [← hw1, ← hz8]
  have h := Blk.new (w.alloc (.cells Try.zeroCells60 60)) Try.zeroCells60 60
  rw [World.size_alloc] at h
  exact h)
 have HK1 := (show Hid (Same w w1) from by rw [← hw1]; exact ((Kept.refl _ _).alloc _).alloc _)
 rw [hw1]
 clear hw1 hz8
 go_loopw [7] (fun i wr => ∃ (k : Nat), k ≤ 8 ∧ i = .int .i64 (k : Int) ∧ Hid (Blk wr w.heap.size 60 (vals .u8 (List.replicate 4096 0))) ∧ Hid (Blk wr (w.heap.size + 1) 60 (vals .u8 (joinS S k ++ List.replicate (4096 - k * 512) 0))) ∧ Hid (Same w wr)) (fun i _ => 8 - (intOf i).toNat)
 case atStart => exact ⟨0, Nat.zero_le _, rfl, HB1, HB2, HK1⟩
 case round =>
  obtain ⟨k, hk, rfl, HA, HB, HK⟩ := hrel
  clear HB1 HB2 HK1
  by_cases hlt : k < 8
  case pos =>
   obtain ⟨u, hu, hr⟩ := HR.out k hlt
   have hl8 := HS8.out k hlt
   have hlj := joinS_length S k (fun i hi => HS8.out i (by omega))
   obtain ⟨bu, ou, cu, rfl, hcu⟩ : ∃ b off c, u = .slice (some ⟨b, off, none⟩) 512 c ∧ ∀ i, i < 512 → w.cell? ⟨b, off + i, none⟩ = some (.int .u8 ((S k).getD i 0)) := by
    rcases hr.2 with ⟨h, _⟩ | ⟨b, off, c, e, hl, hc⟩
    ·rw [h] at hl8; simp at hl8
    ·rw [hl8] at e hc
     exact ⟨b, off, c, e, hc⟩
   have hcG := (HG.out.same HK.out).cell (F + k)
   rw [hu] at hcG
   have e1 : ((k : Int) * 512).toNat = k * 512 := by omega
   have e2 : ((F : Int) + (k : Int)).toNat = F + k := by omega
   have g1 : (k : Int) * 512 ≤ 4096 := by omega
   have g2 : 0 ≤ (k : Int) * 512 := by omega
   have g3 : 0 ≤ (F : Int) + (k : Int) := by omega
   have g4 : (F : Int) + (k : Int) < (n : Int) := by omega
   have q1 : IntKind.i64.wrap ((k : Int) * 512) = (k : Int) * 512 := by rw [IntKind.wrap_i64]; omega
   have q2 : IntKind.i64.wrap ((F : Int) + (k : Int)) = (F : Int) + (k : Int) := by rw [IntKind.wrap_i64]; omega
   have hne : ¬ 4096 = k * 512 := by omega
   have HCU := hid hcu
   have HL8 := hid hl8
   have HLJ := hid hlj
   have hzk := HK.out.size
   clear hu hr hcu hl8 hlj
   go_wp2_with fail
   have hS : (fun wx : World => wx.cell? ⟨G, F + k, none⟩ = some (.slice (some ⟨bu, ou, none⟩) 512 cu)) wr.drew := hcG
   refine wp_region_V (fun wx : World => wx.cell? ⟨G, F + k, none⟩ = some (.slice (some ⟨bu, ou, none⟩) 512 cu)) 99 10 rfl (by kernel_rfl) ?_
   refine tk 0 10 hS ?_
   refine tk 1 11 hS ?_
   refine tkV 2 12 (.slice (some ⟨w.heap.size + 1, k * 512, none⟩) (4096 - k * 512) (4096 - k * 512)) hS ?_
   refine tk 3 13 hS ?_
   refine tk 4 14 hS ?_
   refine tk 5 15 hS ?_
   refine tk 6 16 hS ?_
   refine tkV 7 17 (.pointer (some ⟨G, F + k, none⟩)) hS ?_
   refine tk 8 18 hS ?_
   refine wpAnyV_one (i := 9) (by kernel_rfl) rfl (fun K hK => ?_)
   refine step_copy_m (m := 1) (c := 512) (e := 60) (xs := vals .u8 (joinS S k ++ List.replicate (4096 - k * 512) 0)) (by rfl) (.tmp 12) (.tmp 18) 22 (by rfl) Try.underlying22 hj (vals .u8 (S k)) HB.out.drew (by rfl) (by rfl) (Nat.min_eq_left (by omega)) (by rw [vals_length, HL8.out]) (news_of (fun i hi => by rw [HL8.out] at hi; exact HK.out.drew.cellOf (HCU.out i hi) id)) (by rw [vals_length, vals_length, List.length_append, List.length_replicate, HL8.out, HLJ.out]; omega) vals_one ?_
   have HB5 := hid (Blk.setCells (vals .u8 (S k)) (k * 512) HB.out.drew (by rw [vals_length, vals_length, List.length_append, List.length_replicate, HL8.out, HLJ.out]; omega))
   rw [← HLJ.out, lay_join _ _ _ (by rw [HL8.out, HLJ.out]; omega), ← joinS_succ, HL8.out, HLJ.out] at HB5
   have HA5 := (show Hid (Blk (wr.drew.setCells (w.heap.size + 1) (k * 512) (vals .u8 (S k))) w.heap.size 60 (vals .u8 (List.replicate 4096 0))) from HA.out.drew.kept (Kept.setCells (R := fun b => b = w.heap.size + 1) (.inr rfl) _ _ (Kept.refl _ _)) (by omega))
   have HK5 := (show Hid (Same w (wr.drew.setCells (w.heap.size + 1) (k * 512) (vals .u8 (S k)))) from Kept.setCells (.inl (by omega)) _ _ HK.out.drew)
   refine hK.out _ _ (fun _ => (Kept.setCells (R := fun b => b = w.heap.size + 1) (.inr rfl) _ _ (Kept.refl _ _)).cellOf (hS : wr.drew.cell? _ = _) (by dsimp only; omega)) ?_
   clear hK K
   try simp only [Act.put, sA, s0, sS]
   refine wpAnyV_done (by kernel_rfl) ?_
   generalize wr.drew.setCells (w.heap.size + 1) (k * 512) (vals .u8 (S k)) = w5 at HB5 HA5 HK5 ⊢
   go_wp2
   go_roundw
   case rel => exact ⟨k + 1, by omega, by go_num, HA5, by unfold Hid; rw [show 4096 - (k + 1) * 512 = 4096 - k * 512 - 512 from by omega]; exact HB5.out, HK5⟩
   case measure => simp [intOf]; omega
  obtain rfl : k = 8 := by omega
  have hlj := joinS_length S 8 (fun i hi => HS8.out i hi)
  have hzk := HK.out.size
  have HB8 := HB.out
  rw [show 4096 - 8 * 512 = 0 from rfl, List.replicate_zero, List.append_nil] at HB8
  obtain ⟨ds, hds⟩ : ∃ ds : List Value, vals .u8 (joinS S 8) = ds := ⟨_, rfl⟩
  have HDS := hid hds
  have hone : ∀ v ∈ ds, v.oneCell' = true := by rw [← hds]; exact vals_one
  have hsl : ds.length = 4096 := by rw [← hds, vals_length, hlj]
  rw [hds] at HB8
  have HRG := (show Hid (wr.rangeAt (w.heap.size + 1) 0 ds) from HB8.rangeAll)
  have HTH := (show Hid (wr.there w.heap.size 0 ds.toArray.size) from HA.out.there 0 _ (by rw [vals_length, List.length_replicate, List.size_toArray, hsl]; omega))
  have hb5 := HA.out.setCells ds 0 (by rw [vals_length, List.length_replicate, hsl]; omega)
  rw [lay_all _ _ (by rw [vals_length, List.length_replicate, hsl])] at hb5
  have HRG2 := (show Hid ((wr.setCells w.heap.size 0 ds).rangeAt w.heap.size 0 ds) from hb5.rangeAll)
  have HI := (show Hid ((Try.prog.info? 60).map (·.size) = some ds.length) from (by rw [hsl]; exact (by kernel_rfl : (Try.prog.info? 60).map (·.size) = some 4096) : (Try.prog.info? 60).map (·.size) = some ds.length))
  have HI2 := (show Hid ((Try.prog.info? 60).map (·.size) = some ds.toArray.size) from by rw [List.size_toArray]; exact HI.out)
  have HONE := (show Hid (ds.toArray.all (·.oneCell') = true) from all_oneCell_toArray hone)
  have HK4 := (show Hid (Same w (wr.setCells w.heap.size 0 ds)) from Kept.setCells (.inl (Nat.le_refl _)) ds 0 HK.out)
  clear hds hone hsl hb5 HB8
  go_wp2_with (first | (refine wpList_load_mid rfl 60 _ rfl (w.heap.size + 1) 0 rfl ds _ HRG.out Try.underlying60 rfl HI.out ?_) | (refine wpList_store_mid rfl 60 _ _ rfl w.heap.size 0 ds.toArray rfl rfl HTH.out HI2.out HONE.out ?_))
  have hlv := run_loadVar_mid (P := Try.prog) _ w.heap.size 0 60 ds _ HRG2.out Try.underlying60 rfl HI.out
  refine bodyPost_ret (v := .agg ds.toArray) ?_ rfl ?_
  ·simp [results, Try.results35, asAddr, hlv, Act.put]
  ·rw [HDS.out]
   exact ⟨rfl, HK4.out⟩
def sh (r : Nat) : Nat := if r % 2 = 1 then r / 2 ^^^ 3988292384 else r / 2
def shN : Nat → Nat → Nat
 | 0, r => r
 | k + 1, r => shN k (sh r)
theorem sh_lt (r : Nat) (h : r < 4294967296) : sh r < 4294967296 := by
 unfold sh
 split
 ·exact Nat.xor_lt_two_pow (n := 32) (by omega) (by omega)
 ·omega
theorem shN_lt (k r : Nat) (h : r < 4294967296) : shN k r < 4294967296 := by
 induction k generalizing r with
 | zero => exact h
 | succ k ih => exact ih _ (sh_lt r h)
theorem shN_succ (k r : Nat) : shN (k + 1) r = sh (shN k r) := by
 induction k generalizing r with
 | zero => rfl
 | succ k ih => exact ih (sh r)
theorem half_xor (a b : Nat) : (a ^^^ b) / 2 = a / 2 ^^^ b / 2 := by
 apply Nat.eq_of_testBit_eq
 intro i
 rw [Nat.testBit_xor, Nat.testBit_div_two, Nat.testBit_div_two, Nat.testBit_div_two, Nat.testBit_xor]
theorem odd_xor (a b : Nat) : (a ^^^ b) % 2 = (a % 2 + b % 2) % 2 := by
 have h := Nat.testBit_xor a b 0
 simp only [Nat.testBit_zero] at h
 have := Nat.mod_two_eq_zero_or_one a
 have := Nat.mod_two_eq_zero_or_one b
 have := Nat.mod_two_eq_zero_or_one (a ^^^ b)
 rcases ‹a % 2 = 0 ∨ a % 2 = 1› with h1 | h1 <;> rcases ‹b % 2 = 0 ∨ b % 2 = 1› with h2 | h2 <;> rcases ‹(a ^^^ b) % 2 = 0 ∨ (a ^^^ b) % 2 = 1› with h3 | h3 <;> rw [h1, h2, h3] at h <;> rw [h1, h2, h3] <;> first | rfl | (simp at h)
theorem sh_xor (a b : Nat) : sh (a ^^^ b) = sh a ^^^ sh b := by
 unfold sh
 rw [half_xor, odd_xor]
 have := Nat.mod_two_eq_zero_or_one a
 have := Nat.mod_two_eq_zero_or_one b
 rcases ‹a % 2 = 0 ∨ a % 2 = 1› with h1 | h1 <;> rcases ‹b % 2 = 0 ∨ b % 2 = 1› with h2 | h2 <;> rw [h1, h2] <;> simp only [Nat.zero_add, Nat.add_zero, Nat.reduceMod, Nat.reduceAdd, if_true, if_false, Nat.zero_ne_one]
 ·rw [Nat.xor_assoc]
 ·rw [Nat.xor_assoc, Nat.xor_assoc, Nat.xor_comm 3988292384]
 ·rw [Nat.xor_assoc, Nat.xor_comm (b / 2), ← Nat.xor_assoc 3988292384, Nat.xor_self, Nat.zero_xor]
theorem shN_xor (k a b : Nat) : shN k (a ^^^ b) = shN k a ^^^ shN k b := by
 induction k generalizing a b with
 | zero => rfl
 | succ k ih => simp only [shN]; rw [sh_xor, ih]
theorem sh_even (r : Nat) : sh (2 * r) = r := by
 unfold sh
 rw [if_neg (by omega)]
 omega
theorem shN_mul (k r : Nat) : shN k (2 ^ k * r) = r := by
 induction k generalizing r with
 | zero => simp [shN]
 | succ k ih =>
  simp only [shN]
  rw [show 2 ^ (k + 1) * r = 2 * (2 ^ k * r) from by rw [Nat.pow_succ, Nat.mul_comm (2 ^ k) 2, Nat.mul_assoc], sh_even, ih]
def tab (i : Nat) : Nat := shN 8 i
theorem tab_lt (i : Nat) (h : i < 4294967296) : tab i < 4294967296 := shN_lt 8 i h
theorem parts_xor (r : Nat) : r = 2 ^ 8 * (r / 256) ^^^ r % 256 := by
 have h1 : 2 ^ 8 * (r / 256) ||| r % 256 = 2 ^ 8 * (r / 256) + r % 256 := (Nat.two_pow_add_eq_or_of_lt (i := 8) (by omega) (r / 256)).symm
 have h2 : 2 ^ 8 * (r / 256) &&& r % 256 = 0 := by
  apply Nat.eq_of_testBit_eq
  intro i
  rw [Nat.testBit_and, Nat.zero_testBit, Nat.testBit_two_pow_mul]
  by_cases hi : 8 ≤ i
  ·have : (r % 256).testBit i = false := Nat.testBit_lt_two_pow (Nat.lt_of_lt_of_le (Nat.mod_lt r (by decide)) (Nat.pow_le_pow_right (n := 2) (by decide) hi))
   simp [this]
  ·simp [hi]
 have h3 : 2 ^ 8 * (r / 256) ^^^ r % 256 = 2 ^ 8 * (r / 256) ||| r % 256 := by
  apply Nat.eq_of_testBit_eq
  intro i
  have := congrArg (fun n => n.testBit i) h2
  simp only [Nat.testBit_and, Nat.zero_testBit] at this
  rw [Nat.testBit_xor, Nat.testBit_or]
  revert this
  cases (2 ^ 8 * (r / 256)).testBit i <;> cases (r % 256).testBit i <;> simp
 rw [h3, h1]
 omega
theorem step_tab (r x : Nat) : shN 8 (r ^^^ x) = r / 256 ^^^ tab (r % 256 ^^^ x) := by
 conv => lhs; rw [parts_xor r]
 rw [Nat.xor_assoc, shN_xor, shN_mul]
 rfl
def reg (r : Nat) (bs : List Int) : Nat := bs.foldl (fun r b => shN 8 (r ^^^ b.toNat)) r
theorem reg_take (r : Nat) (bs : List Int) (k : Nat) (h : k < bs.length) : reg r (bs.take (k + 1)) = shN 8 (reg r (bs.take k) ^^^ (bs.getD k 0).toNat) := by
 rw [List.take_succ_eq_append_getElem h]
 unfold reg
 rw [List.foldl_append]
 simp [h]
theorem reg_lt (r : Nat) (bs : List Int) (h : r < 4294967296) (hb : IsB bs) : reg r bs < 4294967296 := by
 induction bs generalizing r with
 | nil => exact h
 | cons b bs ih =>
  have h1 := hb b (by simp)
  exact ih _ (shN_lt 8 _ (Nat.xor_lt_two_pow (n := 32) (by omega) (by omega))) (fun y hy => hb y (by simp [hy]))
def crcOn (sum : Int) (bs : List Int) : Int := if sum < 0 ∨ 4294967295 < sum then -1 else 4294967295 - reg (4294967295 - sum).toNat bs
/-! ### The table, as it is filled: m bits done, n entries of the next one -/
def tabM (m n : Nat) : List Int := (List.range 256).map fun j => if j % 2 ^ (8 - m) = 0 ∨ (j % 2 ^ (7 - m) = 0 ∧ j < 2 ^ (8 - m) * n) then ((tab j : Nat) : Int) else 0
theorem tabM_length (m n : Nat) : (tabM m n).length = 256 := by simp [tabM]
theorem tabM_at (m n j : Nat) (h : j < 256) : (tabM m n)[j]? = some (if j % 2 ^ (8 - m) = 0 ∨ (j % 2 ^ (7 - m) = 0 ∧ j < 2 ^ (8 - m) * n) then ((tab j : Nat) : Int) else 0) := by
 simp [tabM, h]
theorem tabM_zero : tabM 0 0 = List.replicate 256 0 := by decide +kernel
theorem tabM_next (m : Nat) (h : m < 8) : tabM m (2 ^ m) = tabM (m + 1) 0 := by
 have : ∀ m < 8, tabM m (2 ^ m) = tabM (m + 1) 0 := by decide +kernel
 exact this m h
theorem tabM_all (j : Nat) (h : j < 256) : (tabM 8 0)[j]? = some ((tab j : Nat) : Int) := by
 rw [tabM_at _ _ _ h, if_pos (.inl (by simp [Nat.mod_one]))]
theorem tabM_read (m n : Nat) (h : m < 8) (hn : n < 2 ^ m) : (tabM m n)[2 ^ (8 - m) * n]? = some ((tab (2 ^ (8 - m) * n) : Nat) : Int) := by
 have hb : 2 ^ (8 - m) * n < 256 := by
  have : 2 ^ (8 - m) * n < 2 ^ (8 - m) * 2 ^ m := Nat.mul_lt_mul_of_pos_left hn (Nat.two_pow_pos _)
  rwa [← Nat.pow_add, show 8 - m + m = 8 from by omega] at this
 rw [tabM_at _ _ _ hb, if_pos (.inl (Nat.mul_mod_right _ _))]
theorem tabM_step (m n : Nat) (h : m < 8) (hn : n < 2 ^ m) : (tabM m n).set (2 ^ (8 - m) * n + 2 ^ (7 - m)) ((tab (2 ^ (8 - m) * n) ^^^ shN (m + 1) 1 : Nat) : Int) = tabM m (n + 1) := by
 have key : ∀ m < 8, ∀ n < 2 ^ m, tab (2 ^ (8 - m) * n + 2 ^ (7 - m)) = tab (2 ^ (8 - m) * n) ^^^ shN (m + 1) 1 := by decide +kernel
 rw [← key m h n hn]
 apply List.ext_getElem?
 intro j
 by_cases hj : j < 256
 ·rw [tabM_at m (n + 1) j hj, List.getElem?_set, tabM_length, tabM_at m n j hj]
  clear key
  have : m = 0 ∨ m = 1 ∨ m = 2 ∨ m = 3 ∨ m = 4 ∨ m = 5 ∨ m = 6 ∨ m = 7 := by omega
  rcases this with rfl | rfl | rfl | rfl | rfl | rfl | rfl | rfl <;> simp only [Nat.reducePow, Nat.reduceSub] at hn ⊢ <;>
  (split
   ·rename_i he
    subst he
    rw [if_pos (by omega), if_pos (by omega)]
   ·congr 1
    apply ite_congr (propext ⟨fun h => by omega, fun h => by omega⟩) (fun _ => rfl) (fun _ => rfl))
 ·rw [List.getElem?_eq_none (by rw [List.length_set, tabM_length]; omega), List.getElem?_eq_none (by rw [tabM_length]; omega)]
theorem disable (w : World) : (callFunc 102 #[]).run Try.prog w = .ok (.value (.tuple #[])) w := run_call_mark0 Try.func102 (by kernel_rfl) (by kernel_rfl) (by kernel_rfl) .disable (by kernel_rfl) w
theorem enable (w : World) : (callFunc 104 #[]).run Try.prog w = .ok (.value (.tuple #[])) w := run_call_mark0 Try.func104 (by kernel_rfl) (by kernel_rfl) (by kernel_rfl) .enable (by kernel_rfl) w
theorem acquire (a : Addr) (w : World) : (callFunc 105 #[.pointer (some a)]).run Try.prog w = .ok (.value (.tuple #[])) w := run_call_marked Try.func105 (by kernel_rfl) (by kernel_rfl) (by kernel_rfl) .acquire (by kernel_rfl) a w
theorem releaseMerge (a : Addr) (w : World) : (callFunc 107 #[.pointer (some a)]).run Try.prog w = .ok (.value (.tuple #[])) w := run_call_marked Try.func107 (by kernel_rfl) (by kernel_rfl) (by kernel_rfl) .releaseMerge (by kernel_rfl) a w
theorem store_deferred (a : Addr) (x : Value) (u : FrameMode) (w : World) (hc : w.cell? a = some x) (hz : w.frozen? a = false) :
  CallsD Try.prog 97 #[.pointer (some a), .bool true] u w fun e u' w' => u' = u ∧ (e = .returned (.tuple #[]) ∧ w' = w.drew.setCell a (.int .u32 1)) := by
 have hc' : w.drew.cell? a = some x := by go_simp
 have hz' : w.drew.frozen? a = false := by go_simp
 have hst := run_call_store (P := Try.prog) Try.func100 (by kernel_rfl) (by kernel_rfl) (by kernel_rfl) (by kernel_rfl) (k := .u32) (y := 1) hc' hz'
 go_enter_d Try.func97, Try.ntmps97
 go_wp2
 go_region_calls
 all_goals (go_end0; exact ⟨rfl, rfl⟩)
theorem unlock_deferred (a : Addr) (u : FrameMode) (w : World) (hc : w.cell? a = some (.int .i32 1)) (hz : w.frozen? a = false) :
  CallsD Try.prog 96 #[.pointer (some a)] u w fun e u' w' => u' = u ∧ (e = .returned (.tuple #[]) ∧ w' = w.setCell a (.int .i32 0)) := by
 have hd := disable
 have he := enable
 have hr := releaseMerge
 have hadd := run_call_add (P := Try.prog) Try.func108 (by kernel_rfl) (by kernel_rfl) (by kernel_rfl) .i32 (by kernel_rfl) (y := -1) (s := 0) hc hz (by simp [go_sem]; rfl)
 have hcv := run_convert_to_unsafe (P := Try.prog) (src := 148) (dst := 152) Try.underlying148 Try.underlying152 (by kernel_rfl) hc
 go_enter_d Try.func96, Try.ntmps96
 go_wp2
 go_end0
 go_wp2
 go_end0
 exact ⟨rfl, rfl⟩
theorem lock_free (a : Addr) (w : World) (hc : w.cell? a = some (.int .i32 0)) (hz : w.frozen? a = false) :
  Calls Try.prog 95 #[.pointer (some a)] w fun e w' => e = .returned (.tuple #[]) ∧ w' = w.setCell a (.int .i32 1) := by
 have hd := disable
 have he := enable
 have ha := acquire
 have hcas := run_call_cas_hit (P := Try.prog) Try.func103 (by kernel_rfl) (by kernel_rfl) (by kernel_rfl) .i32 (by kernel_rfl) (y := 1) hc hz
 have hc' : (w.setCell a (.int .i32 1)).cell? a = some (.int .i32 1) := World.cell?_setCell_same w a _ hc
 have hcv := run_convert_to_unsafe (P := Try.prog) (src := 148) (dst := 152) Try.underlying148 Try.underlying152 (by kernel_rfl) hc'
 go_enter Try.func95, Try.ntmps95
 go_wp2
 first | go_end0 | (simp only [Exit.inBlock, Exit.then]; refine bodyPost_ret (results_none rfl _ _ _) rfl ?_) | refine bodyPost_ret (results_none rfl _ _ _) rfl ?_
 go_wp2
 go_end0
 exact ⟨rfl, rfl⟩
theorem load_zero (a : Addr) (w : World) (hc : w.cell? a = some (.int .u32 0)) :
  Calls Try.prog 91 #[.pointer (some a)] w fun e w' => e = .returned (.bool false) ∧ w' = w := by
 have hl := run_call_load (P := Try.prog) Try.func94 (by kernel_rfl) (by kernel_rfl) (by kernel_rfl) .u32 (by kernel_rfl) hc
 go_enter Try.func91, Try.ntmps91
 go_wp2
 go_ret
 exact ⟨rfl, rfl⟩
theorem slow_any (B : Nat) (t : TypeId) (xs : List Value) (w : World) (hb : Blk w B t xs) (h0 : xs[0]? = some (.int .u32 0)) (h1 : xs[1]? = some (.int .i32 0)) (Q : World → List Value → Prop)
  (hF : Calls Try.prog 90 #[.pointer (some ⟨B, 0, none⟩)] (w.setCell ⟨B, 1, none⟩ (.int .i32 1)) fun e w' => e = .returned (.tuple #[]) ∧ ∃ ys, Blk w' B t ys ∧ ys[0]? = some (.int .u32 0) ∧ ys[1]? = some (.int .i32 1) ∧ Q w' ys) :
  Calls Try.prog 92 #[.pointer (some ⟨B, 0, none⟩), .func (.func 90) #[.pointer (some ⟨B, 0, none⟩)] #[]] w fun e w' => e = .returned (.tuple #[]) ∧
   ∃ w1 ys, Blk w1 B t ys ∧ Q w1 ys ∧ w' = (w1.drew.setCell ⟨B, 0, none⟩ (.int .u32 1)).setCell ⟨B, 1, none⟩ (.int .i32 0) := by
 have c0 : w.cell? ⟨B, 0, none⟩ = some (.int .u32 0) := by rw [hb.cell, h0]
 have c1 : w.cell? ⟨B, 1, none⟩ = some (.int .i32 0) := by rw [hb.cell, h1]
 have f1 := hb.frozen 1
 have c0' : (w.setCell ⟨B, 1, none⟩ (.int .i32 1)).cell? ⟨B, 0, none⟩ = some (.int .u32 0) := (World.cell?_setCell_other _ ⟨B, 1, none⟩ ⟨B, 0, none⟩ _ (by simp)).trans c0
 go_enter_defers Try.func92, Try.ntmps92
 go_wp2_with (first
  | (go_at_call 95; refine (lock_free ⟨B, 1, none⟩ _ (by go_simp) (by go_simp)).mono ?_; rintro e w' ⟨rfl, rfl⟩)
  | (go_at_call 91; refine (load_zero ⟨B, 0, none⟩ _ c0').mono ?_; rintro e w' ⟨rfl, rfl⟩)
  | (go_at_call 90; refine hF.mono ?_; rintro e w' ⟨rfl, ys, hy, hy0, hy1, hq⟩))
 have k0 : w'.cell? ⟨B, 0, none⟩ = some (.int .u32 0) := by rw [hy.cell, hy0]
 have k1 : w'.cell? ⟨B, 1, none⟩ = some (.int .i32 1) := by rw [hy.cell, hy1]
 have z0 := hy.frozen 0
 have z1 := hy.frozen 1
 go_wp2
 refine leaves_cons (f := 97) (args := #[.pointer (some ⟨B, 0, none⟩), .bool true]) (by simp) (by simp [go_sem]) ?_
 refine (store_deferred ⟨B, 0, none⟩ (.int .u32 0) .returning _ k0 z0).mono ?_
 rintro e u' w'' ⟨rfl, rfl, rfl⟩
 refine leaves_cons (f := 96) (args := #[.pointer (some ⟨B, 1, none⟩)]) (by simp [settle]) (by simp [go_sem]) ?_
 refine (unlock_deferred ⟨B, 1, none⟩ _ _ ?_ (by simp [z1])).mono ?_
 ·refine (World.cell?_setCell_other _ ⟨B, 0, none⟩ ⟨B, 1, none⟩ _ (by simp)).trans ?_
  rw [World.cell?_drew]
  exact k1
 rintro e u' w'' ⟨rfl, rfl, rfl⟩
 have fin : ∃ w1 ys, Blk w1 B t ys ∧ Q w1 ys ∧ (w'.drew.setCell ⟨B, 0, none⟩ (.int .u32 1)).setCell ⟨B, 1, none⟩ (.int .i32 0) = (w1.drew.setCell ⟨B, 0, none⟩ (.int .u32 1)).setCell ⟨B, 1, none⟩ (.int .i32 0) := ⟨w', ys, hy, hq, rfl⟩
 simpa [Leaves, settle, results, Try.results92] using fin
theorem do_any (B : Nat) (t : TypeId) (xs : List Value) (w : World) (hb : Blk w B t xs) (h0 : xs[0]? = some (.int .u32 0)) (h1 : xs[1]? = some (.int .i32 0)) (Q : World → List Value → Prop)
  (hF : Calls Try.prog 90 #[.pointer (some ⟨B, 0, none⟩)] (w.setCell ⟨B, 1, none⟩ (.int .i32 1)) fun e w' => e = .returned (.tuple #[]) ∧ ∃ ys, Blk w' B t ys ∧ ys[0]? = some (.int .u32 0) ∧ ys[1]? = some (.int .i32 1) ∧ Q w' ys) :
  Calls Try.prog 89 #[.pointer (some ⟨B, 0, none⟩), .func (.func 90) #[.pointer (some ⟨B, 0, none⟩)] #[]] w fun e w' => e = .returned (.tuple #[]) ∧
   ∃ w1 ys, Blk w1 B t ys ∧ Q w1 ys ∧ w' = (w1.drew.setCell ⟨B, 0, none⟩ (.int .u32 1)).setCell ⟨B, 1, none⟩ (.int .i32 0) := by
 have c0 : w.cell? ⟨B, 0, none⟩ = some (.int .u32 0) := by rw [hb.cell, h0]
 go_enter Try.func89, Try.ntmps89
 go_wp2_with (first
  | (go_at_call 92; refine (slow_any B t xs _ hb h0 h1 Q hF).mono ?_; rintro e w' ⟨rfl, hr⟩)
  | (go_at_call 91; refine (load_zero ⟨B, 0, none⟩ _ c0).mono ?_; rintro e w' ⟨rfl, rfl⟩))
 go_end0
 exact ⟨rfl, hr⟩
def tcells (d s q : Int) (T : List Int) : List Value := .int .u32 d :: .int .i32 s :: .int .u32 q :: vals .u32 T
theorem tcells_at (d s q : Int) (T : List Int) (j : Nat) : (tcells d s q T)[j + 3]? = (vals .u32 T)[j]? := rfl
theorem tcells_set (d s q : Int) (T : List Int) (j : Nat) (x : Int) : (tcells d s q T).set (j + 3) (.int .u32 x) = tcells d s q (T.set j x) := by simp [tcells, vals]
theorem shiftSum_any (r : Nat) (h : r < 4294967296) (w : World) :
  Calls Try.prog 93 #[.int .u32 r] w fun e w' => e = .returned (.int .u32 (sh r)) ∧ w' = w := by
 have h1 : bits .and .u32 (r : Int) 1 = ((r % 2 : Nat) : Int) := by rw [show (1 : Int) = ((1 : Nat) : Int) from rfl, u32_and_nat r 1 h (by decide), nat_mask1]
 by_cases ho : r % 2 = 1
 ·have h2 : bits .xor .u32 ((r : Int) / 2) 3988292384 = ((r / 2 ^^^ 3988292384 : Nat) : Int) := u32_xor_nat (r / 2) 3988292384 (by omega) (by decide)
  have h3 : sh r = r / 2 ^^^ 3988292384 := by unfold sh; rw [if_pos ho]
  rw [h3]
  rw [ho] at h1
  go_enter Try.func93, Try.ntmps93
  go_wp2
  go_ret
  exact ⟨rfl, rfl⟩
 ·have h3 : sh r = r / 2 := by unfold sh; rw [if_neg ho]
  rw [h3]
  have ho' : r % 2 = 0 := by omega
  rw [ho'] at h1
  go_enter Try.func93, Try.ntmps93
  go_wp2
  go_ret
  exact ⟨rfl, rfl⟩
def bitOf (m : Nat) : Int := if m < 8 then ((2 ^ (7 - m) : Nat) : Int) else 0
theorem bitOf_next (m : Nat) (h : m < 8) : bitOf m / 2 = bitOf (m + 1) := by
 have : ∀ m < 8, bitOf m / 2 = bitOf (m + 1) := by decide +kernel
 exact this m h
theorem bitOf_lt (m : Nat) (h : m < 8) : 1 ≤ 2 ^ (7 - m) ∧ 2 ^ (7 - m) ≤ 128 ∧ 2 ^ (8 - m) = 2 * 2 ^ (7 - m) := by
 have : ∀ m < 8, 1 ≤ 2 ^ (7 - m) ∧ 2 ^ (7 - m) ≤ 128 ∧ 2 ^ (8 - m) = 2 * 2 ^ (7 - m) := by decide +kernel
 exact this m h
theorem entry_lt (m n : Nat) (h : m < 8) (hn : n < 2 ^ m) : 2 ^ (8 - m) * n + 2 ^ (7 - m) < 256 ∧ 2 ^ (8 - m) * (n + 1) ≤ 256 := by
 have h1 : 2 ^ (8 - m) * (n + 1) ≤ 2 ^ (8 - m) * 2 ^ m := Nat.mul_le_mul_left _ hn
 have h2 := bitOf_lt m h
 rw [← Nat.pow_add, show 8 - m + m = 8 from by omega] at h1
 rw [Nat.mul_succ] at h1
 rw [Nat.mul_succ]
 omega
theorem fill_any (B : Nat) (t : TypeId) (w : World) (hb : Blk w B t (tcells 0 1 0 (List.replicate 256 0))) :
  Calls Try.prog 90 #[.pointer (some ⟨B, 0, none⟩)] w fun e w' => e = .returned (.tuple #[]) ∧ Blk w' B t (tcells 0 1 0 (tabM 8 0)) ∧ Kept (fun b => b = B) w w' := by
 have HB : Hid (Blk w B t (tcells 0 1 0 (tabM 0 0))) := by rw [tabM_zero]; exact hb
 clear hb
 go_enter Try.func90, Try.ntmps90
 go_wp2
 go_loopw [2, 3] (fun r b wr => ∃ m : Nat, m ≤ 8 ∧ r = .int .u32 (shN m 1) ∧ b = .int .i64 (bitOf m) ∧ Hid (Blk wr B t (tcells 0 1 0 (tabM m 0))) ∧ Hid (Kept (fun b => b = B) w wr)) (fun _ b _ => (intOf b).toNat)
 case atStart => exact ⟨0, by omega, rfl, rfl, HB, Kept.refl _ _⟩
 case round =>
  obtain ⟨m, hm, rfl, rfl, HBr, HKr⟩ := hrel
  by_cases hlt : m < 8
  ·have hs1 := shN_lt m 1 (by decide)
   have hs2 := shN_lt (m + 1) 1 (by decide)
   have HS := (show Hid (sh (shN m 1) = shN (m + 1) 1) from (shN_succ m 1).symm)
   have HBN := (show Hid (bitOf m / 2 = bitOf (m + 1)) from bitOf_next m hlt)
   have hbo : bitOf m = ((2 ^ (7 - m) : Nat) : Int) := by unfold bitOf; rw [if_pos hlt]
   obtain ⟨p1, p2, p3⟩ := bitOf_lt m hlt
   rw [hbo]
   have HBO := (show Hid (bitOf m = ((2 ^ (7 - m) : Nat) : Int)) from hbo)
   clear hbo
   obtain ⟨b, hbb⟩ : ∃ b : Nat, 2 ^ (7 - m) = b := ⟨_, rfl⟩
   have HBB := (show Hid (2 ^ (7 - m) = b) from hbb)
   rw [hbb] at p1 p2 p3 ⊢
   clear hbb
   go_wp2_with (go_at_call 93; refine (shiftSum_any _ hs1 _).mono ?_; rintro e w' ⟨rfl, rfl⟩; rw [HS.out])
   obtain ⟨s1, hs1e⟩ : ∃ s1 : Nat, shN (m + 1) 1 = s1 := ⟨_, rfl⟩
   have HS1 := (show Hid (shN (m + 1) 1 = s1) from hs1e)
   rw [hs1e] at hs2 ⊢
   clear hs1e hs1 HS
   go_loopw [4] (fun i wr => ∃ n : Nat, n ≤ 2 ^ m ∧ i = .int .i64 ((2 ^ (8 - m) * n : Nat) : Int) ∧ Hid (Blk wr B t (tcells 0 1 0 (tabM m n))) ∧ Hid (Kept (fun b => b = B) w wr)) (fun i _ => 256 - (intOf i).toNat)
   case atStart => exact ⟨0, Nat.zero_le _, rfl, HBr, HKr⟩
   case round =>
    obtain ⟨n, hn, rfl, HBi, HKi⟩ := hrel
    by_cases hnl : n < 2 ^ m
    ·obtain ⟨q1, q2⟩ := entry_lt m n hlt hnl
     have HST := (show Hid (_ = _) from tabM_step m n hlt hnl)
     have q3 : wr.cell? ⟨B, 3 + 2 ^ (8 - m) * n, none⟩ = some (.int .u32 ((tab (2 ^ (8 - m) * n) : Nat) : Int)) := by
      rw [HBi.out.cell, Nat.add_comm, tcells_at]
      have := tabM_read m n hlt hnl
      simp [vals, this]
     have q4 := HBi.out.frozen (3 + (2 ^ (8 - m) * n + b))
     obtain ⟨y, q5⟩ : ∃ y, wr.cell? ⟨B, 3 + (2 ^ (8 - m) * n + b), none⟩ = some (.int .u32 y) := by
      rw [HBi.out.cell, Nat.add_comm, tcells_at, vals_at _ _ _ (by rw [tabM_length]; rw [HBB.out] at q1; exact q1)]
      exact ⟨_, rfl⟩
     have HNX := (show Hid (2 ^ (8 - m) * (n + 1) = 2 ^ (8 - m) * n + 2 * b) from (by rw [Nat.mul_succ, p3] : 2 ^ (8 - m) * (n + 1) = 2 ^ (8 - m) * n + 2 * b))
     rw [HNX.out] at q2
     have HQ := (show Hid (2 ^ (8 - m) * n + 2 * b ≤ 256) from q2)
     rw [HBB.out] at q1
     obtain ⟨i, hi⟩ : ∃ i : Nat, 2 ^ (8 - m) * n = i := ⟨_, rfl⟩
     have HI := (show Hid (2 ^ (8 - m) * n = i) from hi)
     rw [hi] at q1 q2 q3 q4 q5 ⊢
     have hti := tab_lt i (by omega)
     have hx := u32_xor_nat (tab i) s1 hti hs2
     have hil : i < 256 := by omega
     have HNL := (show Hid (n < 2 ^ m) from hnl)
     clear hi hn hnl
     have hc1 : (i : Int) < 256 := by omega
     have hc2 : (0 : Int) ≤ (i : Int) := by omega
     have hc3 : (i : Int) + (b : Int) < 256 := by omega
     have hc4 : (0 : Int) ≤ (i : Int) + (b : Int) := by omega
     have hc5 : ((i : Int) + (b : Int)).toNat = i + b := by omega
     have hc6 : IntKind.i64.wrap ((i : Int) + (b : Int)) = (i : Int) + (b : Int) := by rw [IntKind.wrap_i64]; omega
     have hdec : decide ((i : Int) < 256) = true := by simp; omega
     go_wp2
     have hS : (fun w' => w'.cell? ⟨B, 3 + i, none⟩ = some (.int .u32 ((tab i : Nat) : Int)) ∧ w'.cell? ⟨B, 3 + (i + b), none⟩ = some (.int .u32 y) ∧ w'.frozen? ⟨B, 3 + (i + b), none⟩ = false) wr.drew := by go_keep
     refine wp_region_V (fun w' => w'.cell? ⟨B, 3 + i, none⟩ = some (.int .u32 ((tab i : Nat) : Int)) ∧ w'.cell? ⟨B, 3 + (i + b), none⟩ = some (.int .u32 y) ∧ w'.frozen? ⟨B, 3 + (i + b), none⟩ = false) 15 16 rfl (by kernel_rfl) ?_
     refine tk 0 17 hS ?_
     refine tk 1 18 hS ?_
     refine tk 2 19 hS ?_
     refine tk 3 20 hS ?_
     refine tk 4 21 hS ?_
     refine tk 5 22 hS ?_
     refine tk 6 23 hS ?_
     refine tk 7 24 hS ?_
     refine tk 8 25 hS ?_
     refine tk 9 26 hS ?_
     refine tk 10 27 hS ?_
     refine tk 11 28 hS ?_
     refine wpAnyV_one (i := 12) (by kernel_rfl) rfl (fun K hK => ?_)
     go_simp
     have hS : (fun w' => w'.cell? ⟨B, 3 + i, none⟩ = some (.int .u32 ((tab i : Nat) : Int)) ∧ w'.cell? ⟨B, 3 + (i + b), none⟩ = some (.int .u32 y) ∧ w'.frozen? ⟨B, 3 + (i + b), none⟩ = false) wr.drew := by go_keep
     refine hK.out _ _ (fun _ => hS) ?_
     clear hK K
     try simp only [Act.put, sA, s0, sS]
     refine wpAnyV_one (i := 13) (by kernel_rfl) rfl (fun K hK => ?_)
     go_simp
     have hS : (fun w' => w'.cell? ⟨B, 3 + i, none⟩ = some (.int .u32 ((tab i : Nat) : Int)) ∧ w'.cell? ⟨B, 3 + (i + b), none⟩ = some (.int .u32 y) ∧ w'.frozen? ⟨B, 3 + (i + b), none⟩ = false) wr.drew := by go_keep
     refine hK.out _ _ (fun _ => hS) ?_
     clear hK K
     try simp only [Act.put, sA, s0, sS]
     refine tk 14 31 hS ?_
     refine wpAnyV_one (i := 15) (by kernel_rfl) rfl (fun K hK => ?_)
     go_simp
     refine hK.out _ _ (fun h => absurd rfl h) ?_
     clear hK K
     refine wpAnyV_done (by kernel_rfl) ?_
     try simp only [Act.put, sA, s0, sS]
     go_wp2
     go_roundw
     case rel =>
      have h := HBi.out.stored (3 + (i + b)) (.int .u32 ((tab i ^^^ s1 : Nat) : Int))
      rw [Nat.add_comm 3, tcells_set] at h
      have e := HST.out
      rw [HI.out, HBB.out, HS1.out] at e
      rw [e] at h
      refine ⟨n + 1, by have h1 := HNL.out; omega, ?_, ?_, ?_⟩
      ·rw [HNX.out, HI.out]
       simp
      ·rw [Nat.add_comm 3]
       exact h
      ·exact HKi.out.drew.setCell (.inr rfl) _
     case measure => simp [intOf]; omega
    ·obtain rfl : n = 2 ^ m := by omega
     have e : 2 ^ (8 - m) * 2 ^ m = 256 := by rw [← Nat.pow_add, show 8 - m + m = 8 from by omega]
     have HB2 := HBi.out
     rw [tabM_next m hlt] at HB2
     rw [e]
     clear e
     go_wp2
     go_roundw
     case rel => exact ⟨m + 1, by omega, by rw [HS1.out], by rw [← HBN.out, HBO.out, HBB.out], HB2, HKi⟩
     case measure => simp [intOf]; omega
  ·obtain rfl : m = 8 := by omega
   go_wp2
   go_end0
   exact ⟨rfl, HBr.out, HKr.out⟩
end Go.Proofs.Ytlmcaodiiadlkaa
