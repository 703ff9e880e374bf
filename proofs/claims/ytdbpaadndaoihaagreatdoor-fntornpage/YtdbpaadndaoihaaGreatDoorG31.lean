import Derived.Test.YtdbpaadndaoihaaGreatDoorG30
import Derived.Test.YtdbpaadndaoihaaGreatDoorG13
import Derived.Test.YtdbpaadndaoihaaGreatDoorG09
import Derived.Test.YtdbpaadndaoihaaGreatDoorG01
import Derived.Test.YtdbpaadndaoihaaGreatDoorG27
import Derived.Deep.MidRow
import Derived.Deep.AppendLies
import Derived.Laws.Tables
import Derived.Great.BuildSlice
import Derived.Deep.WholeRow
import Derived.Deep.DeepCutAuto
import Derived.Deep.RegionWith
namespace Go.Proofs.YtdbpaadndaoihaaGreatDoor
set_option maxHeartbeats 16000000
set_option linter.unusedSimpArgs false
set_option linter.unusedVariables false
set_option maxRecDepth 100000
open Go.RowKit Go
abbrev IsCrash (ks : List Int) (dur : List Int) (ds : List (Int × List Int)) (r : List Int) (rs : List (Int × List Int)) : Prop := Ans (Valid dur.length ds) (settleN (keepS ks) dur ds ds.length) [] dur ds r rs
theorem implCrash_any (dv pv : Value) (dur : List Int) (ps : List PW) (kv : Value) (ks : List Int) (w : World) (hd : dur.length ≤ 1099511627776) (hn : ps.length ≤ 1073741824) (hs : ∀ p ∈ ps, p.bs.length ≤ 1099511627776) (hv : RdD w dv pv dur ps) (hkl : ks.length ≤ 1099511627776) (hkv : Rd .i64 w kv ks) :
  Calls Tryz.prog 15 #[.agg #[dv, pv], kv] w fun e w' => ∃ a n c a' n' c' r qs, e = .returned (.agg #[.slice a n c, .slice a' n' c']) ∧ IsCrash ks dur (dataP ps) r (dataP qs) ∧
   (∀ b, footD (.slice a n c) (.slice a' n' c') qs b → w.heap.size ≤ b) ∧ OwnD 0 128 5 w' (.slice a n c) (.slice a' n' c') r qs ∧ Same w w' := by
 obtain ⟨a1, c1, rfl⟩ := hv.dur.form
 obtain ⟨a2, c2, rfl⟩ := hv.pend.form
 have HV := (show Hid (RdD w (.slice a1 dur.length c1) (.slice a2 ps.length c2) dur ps) from hv)
 obtain ⟨ak, ck, rfl⟩ := hkv.form
 have HKV := (show Hid (Rd .i64 w (.slice ak ks.length ck) ks) from hkv)
 have HS : Hid (∀ p ∈ ps, p.bs.length ≤ 1099511627776) := hs
 clear hv hs hkv
 go_enter Tryz.func15, Tryz.ntmps15
 go_wp2_with fail
 refine (implValid_any _ _ dur ps _ (HV.out.same (((Kept.refl _ _).alloc _).alloc _))).mono ?_
 rintro e w1 ⟨⟨B, rfl, hB⟩, hk1⟩
 have HB1 : Hid (Box w1 w.heap.size (.slice a1 dur.length c1) (.slice a2 ps.length c2)) := (Box.new _ _ _ _).same (((Kept.refl _ _).alloc _).trans hk1)
 have HX1 : Hid (FBox w1 (w.heap.size + 1) (.slice none 0 0) (.slice none 0 0)) := by have h := FBox.new (w.alloc (.cells #[.slice a1 dur.length c1, .slice a2 ps.length c2] 27)) (.slice none 0 0) (.slice none 0 0) 27; rw [World.size_alloc] at h; exact h.same hk1
 have HK1 : Hid (Same w w1) := (((Kept.refl _ _).alloc _).alloc _).trans hk1
 clear hk1
 obtain ⟨p1, p2⟩ := HB1.out
 have hl1 := HX1.out.lt
 cases B with
 | false =>
  have HN : Hid (¬ Valid dur.length (dataP ps)) := fun h => by have := hB.2 h; simp at this
  clear hB
  go_wp2_with fail
  refine (cloneDisk_any _ _ dur ps _ hd hn HS.out (HV.out.same HK1.out)).mono ?_
  rintro e w2 ⟨a, n, c, a', n', c', qs, rfl, hq, hf, ho, hk⟩
  have HQ : Hid (dataP qs = dataP ps) := hq
  have HF := (show Hid (∀ b, footD (.slice a n c) (.slice a' n' c') qs b → w.heap.size + 1 < b) from fun b hb => by have h1 := hf b hb; omega)
  have HO := (show Hid (OwnD 0 128 5 w2 (.slice a n c) (.slice a' n' c') dur qs) from ho)
  have HK : Hid (Same w w2) := HK1.out.trans hk
  obtain ⟨x1, x2, x3, x4⟩ := HX1.out.same hk
  clear hq hf ho hk p1 p2
  go_wp2
  exact agg_ret (by simp [results, Tryz.results15, go_sem, x1, x2]) rfl (A := IsCrash ks dur (dataP ps)) (.inr ⟨HN.out, rfl, HQ.out⟩) (Nat.le_succ _) HF.out HO.out HK.out
 | true =>
  have HY : Hid (Valid dur.length (dataP ps)) := hB.1 rfl
  clear hB
  go_wp2_with fail
  refine (openDisk_any _ _ dur ps _ (HV.out.same HK1.out) HY.out).mono ?_
  rintro e w2 ⟨B, dv', pv', rfl, hpl, ⟨hf1, hf2, hf3⟩, hk2⟩
  have HPL := (show Hid (Plat w2 B dv' pv' dur (dataP ps)) from hpl)
  have HF := (show Hid (w1.heap.size ≤ B ∧ ∀ b, dv'.ownBlock = some b → w1.heap.size ≤ b) from ⟨hf1, hf2⟩)
  have HK2 : Hid (Same w w2) := HK1.out.trans hk2
  have HX2 : Hid (FBox w2 (w.heap.size + 1) (.slice none 0 0) (.slice none 0 0)) := HX1.out.same hk2
  have hs2 := hk2.size
  clear hpl hf1 hf2 hf3 hk2 p1 p2
  go_wp2_with fail
  refine (crash_any B dv' pv' dur (dataP ps) _ ks _ HPL.out HY.out (HKV.out.same HK2.out) (fun h0 b hb => ?sep)).mono ?_
  case sep =>
   have hbw : b < w.heap.size := HKV.out.looks_lt h0 hb
   exact fun e => by have := HF.out.2 b e; omega
  rintro e w3 ⟨rfl, hpl, hk3⟩
  have HPL3 := (show Hid (Plat w3 B dv' (.slice none 0 0) (settleN (keepS ks) dur (dataP ps) (dataP ps).length) []) from hpl)
  have HK3 : Hid (Same w w3) := HK2.out.next hk3 (fun b hb e => by
   rcases e with rfl | e
   ·have := HF.out.1; omega
   ·have := HF.out.2 b e; omega)
  have HX3 : Hid (FBox w3 (w.heap.size + 1) (.slice none 0 0) (.slice none 0 0)) := HX2.out.kept hk3 (fun e => by
   rcases e with e | e
   ·have := HF.out.1; omega
   ·have := HF.out.2 _ e; omega)
  have hs3 := hk3.size
  clear hpl hk3
  go_wp2_with fail
  refine (disk_any B dv' (.slice none 0 0) (settleN (keepS ks) dur (dataP ps) (dataP ps).length) [] _ HPL3.out (by rw [settleN_length _ _ _ HY.out _ (Nat.le_refl _)]; exact ⟨⟨HY.out.1.1, HY.out.1.2.1, HY.out.1.2.2.1, Nat.zero_le _⟩, fun p hp => by simp at hp⟩)).mono ?_
  rintro e w4 ⟨a, n, c, a', n', c', qs, rfl, hq, hf, ho, hk⟩
  have HQ : Hid (dataP qs = []) := hq
  have HF4 := (show Hid (∀ b, footD (.slice a n c) (.slice a' n' c') qs b → w.heap.size + 1 < b) from fun b hb => by have h1 := hf b hb; omega)
  have HO := (show Hid (OwnD 0 128 5 w4 (.slice a n c) (.slice a' n' c') (settleN (keepS ks) dur (dataP ps) (dataP ps).length) qs) from ho)
  have HK : Hid (Same w w4) := HK3.out.trans hk
  obtain ⟨x1, x2, x3, x4⟩ := HX3.out.same hk
  clear hq hf ho hk
  go_wp2
  exact agg_ret (by simp [results, Tryz.results15, go_sem, x1, x2]) rfl (A := IsCrash ks dur (dataP ps)) (.inl ⟨HY.out, rfl, HQ.out⟩) (Nat.le_succ _) HF4.out HO.out HK.out
theorem sameE_any (va vb : Value) (xs bs : List Int) (w : World) (ha : IsB xs) (hb : IsB bs) (hra : Rd .u8 w va xs) (hrb : Rd .u8 w vb bs) :
  Calls Tryz.prog 17 #[va, vb] w fun e w' => e = .returned (.bool (decide (xs = bs))) ∧ Same w w' := by
 have h1 := conv_any hra
 have h2 := conv_any hrb
 clear hra hrb
 have HE := (show Hid (((strOfNums xs).toList == (strOfNums bs).toList) = decide (xs = bs)) from by
  by_cases h : xs = bs
  ·subst h
   show _ = _
   simp
  ·rw [decide_eq_false h]
   refine beq_eq_false_iff_ne.2 (fun e => h (strOfNums_inj ha hb ?_))
   rw [ByteArray.toList_eq, ByteArray.toList_eq] at e
   exact ByteArray.ext (Array.ext' e))
 generalize strOfNums xs = s at *
 generalize strOfNums bs = t at *
 clear ha hb
 go_enter Tryz.func17, Tryz.ntmps17
 go_wp2
 go_ret
 exact ⟨by rw [← HE.out]; rfl, Kept.refl _ _⟩
theorem rd52 {dur : List Int} (hd : dur.length = 30720) : rdPg 2 3 42 1 dur [] = pgT 52 dur := by
 rw [rdPg_yes ⟨geo242, valid60 hd, by rw [hd, dsk242]; rfl⟩ (by decide) (by decide)]
 exact pgB_pgT 52 dur
theorem pgT_len {dur : List Int} (hd : dur.length = 30720) : (pgT 52 dur).length = 4096 := by
 unfold pgT
 rw [joinS_length _ 8 (fun i hi => by unfold secB; rw [List.length_take, List.length_drop]; omega)]
theorem crash_page {ks dur bs r : List Int} {rs : List (Int × List Int)} {k : Nat} (hd : dur.length = 30720) (hl : bs.length = 4096) (hk : k ≤ 8) (h : IsCrash ks dur (wrT ((52 : Nat) : Int) bs k) r rs) : r.length = 30720 ∧ rs = [] ∧ ∀ i, i < 8 → parT (pgT 52 r) i = parT (pgT 52 dur) i ∨ parT (pgT 52 r) i = parT bs i := by
 have hv : Valid dur.length (wrT ((52 : Nat) : Int) bs k) := wrT_valid hl (sixty hd).1 (sixty hd).2 hk
 obtain ⟨e1, e2⟩ := h.elim And.right (fun e => absurd hv e.1)
 rw [wrT_length] at e1
 refine ⟨by rw [e1, settleN_length _ _ _ hv _ (by rw [wrT_length]; exact Nat.le_refl _), hd], e2, ?_⟩
 rw [e1]
 exact (torn_page hl (sixty hd).1 (sixty hd).2 hk _).2
theorem isB_part {bs : List Int} (h : IsB bs) (i : Nat) : IsB (parT bs i) := fun x hx => h x (List.mem_of_mem_drop (List.mem_of_mem_take hx))
theorem isB_parts {g : List Int} (hg : g.length = 4096) (h : ∀ i, i < 8 → IsB (parT g i)) : IsB g := by
 intro x hx
 rw [← page_parts hg] at hx
 unfold joinS at hx
 obtain ⟨l, hl, hx⟩ := List.mem_flatten.1 hx
 obtain ⟨i, hi, rfl⟩ := List.mem_map.1 hl
 exact h i (List.mem_range.1 hi) x hx
theorem got_page {was fresh got : List Int} (hw : IsB was) (hf : IsB fresh) (hg : got.length = 4096) (h : ∀ i, i < 8 → parT got i = parT was i ∨ parT got i = parT fresh i) : IsB got := isB_parts hg (fun i hi => by
 rcases h i hi with e | e <;> rw [e]
 ·exact isB_part hw i
 ·exact isB_part hf i)
theorem TpF.ok {w : World} {i : Nat} {fa : Option Addr} {fn fc : Nat} {ps : List StLogFrame} {pa : Option Addr} {pc : Nat} {P Bg : List Int} (h : TpF w i fa fn fc ps pa pc P Bg) (hi : i ≤ 9) : FrOK ps := by
 have hf := h.few
 have hs : ∀ qs : List StLogFrame, (∀ p ∈ qs, p.record.szs ≤ 7000) → sizeFr qs ≤ 7000 * (qs.length : Int) := by
  intro qs
  induction qs with
  | nil => intro _; simp [sizeFr]
  | cons p qs ih =>
   intro hq
   have h1 := hq p (by simp)
   have h2 := ih (fun q h => hq q (by simp [h]))
   simp only [sizeFr, StLogFrame.szs, List.length_cons]
   omega
 have h3 := hs ps (fun p hp => (h.each p hp).2)
 refine ⟨by omega, fun p hp => ?_, by omega, fun p hp => (h.each p hp).1⟩
 have := (h.each p hp).2
 unfold StLogFrame.szs
 omega
theorem Tryz.infoLX : (Tryz.prog.info? 51).map (fun i => (i.zero, i.size, i.bytes)) = some (some (.agg #[.int .i64 0, .int .i64 0, .int .i64 0, .int .i64 0, .int .i64 0, .int .i64 0, .int .i64 0, .bool false, .slice none 0 0, .bool false, .slice none 0 0, .int .i64 0, .int .i64 0, .slice none 0 0, .slice none 0 0, .slice none 0 0]), 16, 208) := by kernel_rfl
theorem step_addX {w : World} {ops : Array Oper} {o : Oper} {a : Act} {K : Act → World → Prop} {Q : Exit → Act → World → Prop} {E : Prop} (hgd : o.guard = none) (s x : Operand)
  (ho : o.op = .call { callee := .builtin .append, args := #[s, x], argTypes := #[31, 31] }) {fa : Option Addr} {fn fc B : Nat} {qs : List StLogFrame} {p : StLogFrame} (hs : a.eval s = .slice fa fn fc) (hx : a.eval x = .slice (some ⟨B, 0, none⟩) 1 1)
  (hB : Blk w B 51 p.cells) (hrow : w.ownsRow 0 51 16 (.slice fa fn fc) fn (kFr.all qs)) (hfn : fn = qs.length) (hq : qs.length ≤ 20000)
  (h : ∀ gF cF w', w'.ownsRow 0 51 16 (.slice (some ⟨gF, 0, none⟩) (fn + 1) cF) (fn + 1) (kFr.all qs ++ p.cells) → w.grownBy w' (Value.slice fa fn fc).ownBlock → ((Value.slice fa fn fc).ownBlock = some gF ∨ gF = w.heap.size) → K (a.put o.dst (.slice (some ⟨gF, 0, none⟩) (fn + 1) cF)) w') :
  if Region.wanted o (yielded ops a.tmps) = true then Oper.wp Tryz.prog o a w K Q else E := by
 obtain ⟨i0, hi, hz0, hz1, hz2⟩ := info_parts Tryz.infoLX
 refine step_append_lies (P := Tryz.prog) w hgd s x 31 ho 0 51 i0 _ 16 208 Tryz.underlying31 hi hz0 hz1 hz2 rfl (by omega) (.slice fa fn fc) fn (kFr.all qs) hs hrow ⟨B, 0, none⟩ 1 1 p.cells hx rfl (fun j u hu => ?_) (fun u hu => ?_) (by omega) (by unfold maxLen; omega) (by omega) (Nat.zero_le _) w.heap.size rfl ?_
 ·have h1 := hB.cell j
  rw [hu] at h1
  simpa [Addr.add_lit] using h1
 ·simp only [StLogFrame.cells, List.mem_cons, List.not_mem_nil, or_false] at hu
  rcases hu with rfl | rfl | rfl | rfl | rfl | rfl | rfl | rfl | rfl | rfl | rfl | rfl | rfl | rfl | rfl | rfl <;> rfl
 ·intro gF cF w' hown hg hat hlt
  exact h gF cF w' hown hg hat
theorem exec_build {P : Program} {op : Oper} {f : Operand → Value} {w : World} (ty : TypeId) (lp : List (Nat × Operand)) (ho : op.op = .build ty lp.toArray) (lv : List (Nat × Value)) (hv : lp.map (fun x => (x.1, f x.2)) = lv) (cells : Array Value) (hb : P.built ty lv = some cells) : (execOp f op).run P w = .ok (.value (.agg cells)) w := by
 have h := run_build (P := P) w ty lv.toArray cells (by simpa using hb)
 have e : (lp.toArray.map fun x => (x.1, f x.2)) = lv.toArray := by rw [List.map_toArray, hv]
 unfold execOp
 simp only [ho]
 show Sem.run P (do pure (Next.value (← Instr.build ty (lp.toArray.map fun x => (x.1, f x.2))))) w = _
 rw [e]
 simp only [Sem.run_bind, h, Result.andThen_ok, Sem.run_pure]
theorem built_is (parts : List (Nat × Value)) : Tryz.prog.built 51 parts = Instr.fill (fun i => #[(0, 1), (1, 1), (2, 14)][i]?) #[.int .i64 0, .int .i64 0, .int .i64 0, .int .i64 0, .int .i64 0, .int .i64 0, .int .i64 0, .bool false, .slice none 0 0, .bool false, .slice none 0 0, .int .i64 0, .int .i64 0, .slice none 0 0, .slice none 0 0, .slice none 0 0] parts := by kernel_rfl
theorem built_frame (l e : Int) (c0 c1 c2 c3 c4 c5 c6 c7 c8 c9 c10 c11 c12 c13 : Value) : Tryz.prog.built 51 [(0, .int .i64 l), (1, .int .i64 e), (2, .agg #[c0, c1, c2, c3, c4, c5, c6, c7, c8, c9, c10, c11, c12, c13])] = some #[.int .i64 l, .int .i64 e, c0, c1, c2, c3, c4, c5, c6, c7, c8, c9, c10, c11, c12, c13] := by
 rw [built_is]
 simp [Instr.fill, Value.cells]
theorem step_one {w : World} {ops : Array Oper} {o : Oper} {a : Act} {K : Act → World → Prop} {Q : Exit → Act → World → Prop} {E : Prop} (hgd : o.guard = none) (x : Operand) (ho : o.op = .buildSlice 31 1 #[(0, x)]) {c0 c1 c2 c3 c4 c5 c6 c7 c8 c9 c10 c11 c12 c13 c14 c15 : Value} (hx : a.eval x = .agg #[c0, c1, c2, c3, c4, c5, c6, c7, c8, c9, c10, c11, c12, c13, c14, c15])
  (h : K (a.put o.dst (.slice (some ⟨w.heap.size, 0, none⟩) 1 1)) (w.alloc (.cells #[c0, c1, c2, c3, c4, c5, c6, c7, c8, c9, c10, c11, c12, c13, c14, c15] 51))) : if Region.wanted o (yielded ops a.tmps) = true then Oper.wp Tryz.prog o a w K Q else E := by
 have hw : Region.wanted o (yielded ops a.tmps) = true := by simp [Region.wanted, hgd]
 rw [if_pos hw]
 obtain ⟨i0, hi, hz0, hz1, hz2⟩ := info_parts Tryz.infoLX
 refine wp_buildSlice _ 51 1 _ ho _ i0 _ Tryz.underlying31 hi hz0 (by rw [hz1]; decide) (by rw [hz1]; decide) ?_ h
 rw [hz1]
 have hp : ((#[(0, x)] : Array (Nat × Operand)).map fun (i, x) => (i, a.eval x)).toList = [(0, .agg #[c0, c1, c2, c3, c4, c5, c6, c7, c8, c9, c10, c11, c12, c13, c14, c15])] := by simp [hx]
 rw [hp]
 generalize hZ : (Array.map _ (Array.range (1 * 16)) : Array Value) = Z
 have hs : Z.size = 16 := by rw [← hZ]; simp
 clear hZ hp hx h ho
 obtain ⟨Z⟩ := Z
 match Z, hs with
 | [z0, z1, z2, z3, z4, z5, z6, z7, z8, z9, z10, z11, z12, z13, z14, z15], _ => simp [Instr.fill, Value.cells]
def chgT (L s : Int) (bu : Bool) (ba : Option Addr) (bc : Nat) (bd : List Int) (u : Bool) (ta : Option Addr) (tc : Nat) (d : List Int) : StLogFrame := ⟨L, 1, ⟨1, 1, 0, 1, s, ⟨bu, ⟨0, ba, bc, bd⟩⟩, ⟨u, ⟨0, ta, tc, d⟩⟩, 0, 0, ⟨0, none, 0, 0, []⟩, ⟨0, none, 0, 0, []⟩, ⟨0, none, 0, []⟩⟩⟩
theorem chgT_cells {L s : Int} {bu : Bool} {ba : Option Addr} {bc bn : Nat} {bd : List Int} {u : Bool} {ta : Option Addr} {tc dn : Nat} {d : List Int} (hb : bd.length = bn) (hd : d.length = dn) : (chgT L s bu ba bc bd u ta tc d).cells = [.int .i64 L, .int .i64 1, .int .i64 1, .int .i64 1, .int .i64 0, .int .i64 1, .int .i64 s, .bool bu, .slice ba bn bc, .bool u, .slice ta dn tc, .int .i64 0, .int .i64 0, .slice none 0 0, .slice none 0 0, .slice none 0 0] := by
 simp [StLogFrame.cells, chgT, BS.v, FR.v, hb, hd]
theorem chgT_rd {L s : Int} {bu : Bool} {ba : Option Addr} {bc bn : Nat} {bd : List Int} {u : Bool} {ta : Option Addr} {tc dn : Nat} {d : List Int} {w : World} (hb : bd.length = bn) (hd : d.length = dn) (h1 : Rd .u8 w (.slice ba bn bc) bd) (h2 : Rd .u8 w (.slice ta dn tc) d) : StLogFrame.rd w (chgT L s bu ba bc bd u ta tc d) :=
 ⟨by show Rd .u8 w (.slice ba bd.length bc) bd; rw [hb]; exact h1, by show Rd .u8 w (.slice ta d.length tc) d; rw [hd]; exact h2, rdF_nil 4 w, rdF_nil 2 w, rd_nil8 w⟩
theorem get_small {P : List Int} (h : GoodB P) {y : StPageRecord} {s : Int} (hy : y.dat = pageGet P s) : IsB y.data.bs ∧ y.data.bs.length ≤ 4096 := by
 have e : y.data.bs = (pageGet P s).2 := congrArg Prod.snd hy
 rw [e]
 unfold pageGet
 split
 ·refine ⟨fun x hx => h.2 x (List.mem_of_mem_drop (List.mem_of_mem_take hx)), ?_⟩
  have hl := h.len
  unfold stretch
  rw [List.length_take, List.length_drop]
  omega
 ·exact ⟨fun x hx => by simp at hx, by simp⟩
theorem set_len {P Q d : List Int} {s L : Int} {u : Bool} (h : GoodB P) (hd : IsB d) (hR : pageSet P s u d L = (0, Q)) : Q.length = 4096 := by
 obtain ⟨s1, s2⟩ := set_sim (Sim.refl h) s u d hd L
 have := (s2 (by rw [hR])).1.q.len
 rw [hR] at this
 exact this
theorem TpF.change {w w' : World} {j : Nat} {fa : Option Addr} {fn fc g c : Nat} {ps : List StLogFrame} {pa pa' : Option Addr} {pc pc' : Nat} {P Bg Q : List Int} {s : Int} {bu : Bool} {ba : Option Addr} {bc : Nat} {bd : List Int} {u : Bool} {ta : Option Addr} {tc : Nat} {d : List Int} (h : TpF w j fa fn fc ps pa pc P Bg) (hR : pageSet P s u d (600 + 50 * (j : Int)) = (0, Q)) (hd : IsB d) (hdl : d.length ≤ 1001) (hb : IsB bd) (hbl : bd.length ≤ 4096)
  (hp : ∀ w', Kept (fun b => (Value.slice fa fn fc).ownBlock = some b) w w' → StLogFrame.rd w' (chgT (600 + 50 * (j : Int)) s bu ba bc bd u ta tc d)) (hrow : w'.ownsRow 0 51 16 (.slice (some ⟨g, 0, none⟩) (fn + 1) c) (fn + 1) (kFr.all ps ++ (chgT (600 + 50 * (j : Int)) s bu ba bc bd u ta tc d).cells)) (hg : w.grownBy w' (Value.slice fa fn fc).ownBlock) (hat : (Value.slice fa fn fc).ownBlock = some g ∨ g = w.heap.size) (hQ : Rd .u8 w' (.slice pa' 4096 pc') Q) :
  TpF w' (j + 1) (some ⟨g, 0, none⟩) (fn + 1) c (ps ++ [chgT (600 + 50 * (j : Int)) s bu ba bc bd u ta tc d]) pa' pc' Q Bg := by
 have e : redoOne P (chgT (600 + 50 * (j : Int)) s bu ba bc bd u ta tc d).dat = (0, Q) := hR
 have hz : (chgT (600 + 50 * (j : Int)) s bu ba bc bd u ta tc d).record.szs ≤ 7000 := by
  simp [chgT, StLogRecord.szs, StPageRecord.szs]
  omega
 have hm := h.more (p := chgT (600 + 50 * (j : Int)) s bu ba bc bd u ta tc d) hp hrow hg hat rfl rfl rfl ⟨⟨hb, hd, fun x hx => by simp [chgT] at hx⟩, hz⟩ hd (by rw [e]) (pa' := pa') (pc' := pc') (by rw [e]; exact hQ) h.few
 rw [e] at hm
 exact hm
theorem sec_slice {w : World} {a : Option Addr} {c : Nat} {bs : List Int} (h : Rd .u8 w (.slice a 4096 c) bs) (hl : bs.length = 4096) (i I : Nat) (hi : i < 8) (hI : I = 512 * i) : ∃ (A : Option Addr) (cc : Nat), (∀ wx : World, (Instr.slice 22 (.slice a 4096 c) (some (.int .i64 (I : Int))) (some (.int .i64 ((I : Int) + 512))) none).run Tryz.prog wx = .ok (.slice A 512 cc) wx) ∧ Rd .u8 w (.slice A 512 cc) (parT bs i) := by
 subst hI
 rcases h.2 with ⟨h1, _⟩ | ⟨b, off, c', he, hc, _⟩
 ·rw [h1] at hl
  simp at hl
 injection he with e1 e2 e3
 subst e1 e3
 rw [← hl] at h
 have hcut := Rd.cut h (512 * i) 512 (by omega)
 refine ⟨_, _, fun wx => ?_, hcut⟩
 rw [run_slice_lh wx 22 _ 4096 c (by kernel_rfl) .i64 .i64 _ _ (by omega) (by omega) (by omega)]
 have hsz : (sizeOf (Tryz.prog.elem 22)).run Tryz.prog wx = .ok 1 wx := by kernel_rfl
 rw [hsz]
 simp only [Result.andThen, sliced, Int.toNat_natCast, Nat.mul_one]
 rw [show (((512 * i : Nat) : Int) + 512).toNat - 512 * i = 512 from by omega]
 split
 ·rfl
 ·simp [addr_add]
def MxR (V W B : List Int) (z : Value) (w wx : World) : Prop := Same w wx ∧ (z = .bool true ∨ (z = .bool false ∧ (V = W ∨ V = B)))
def BgR (Bg : List Int) (z : Value) (w wx : World) : Prop := ∃ (a : Option Addr) (c : Nat), z = .slice a 4096 c ∧ Rd .u8 wx (.slice a 4096 c) Bg ∧ Same w wx
theorem sameRec_any (u : Bool) (va vb : Option Addr) (na nb ca cb : Nat) (xs : List Int) (w : World) (hB : IsB xs) (ha : Rd .u8 w (.slice va na ca) xs) (hb : Rd .u8 w (.slice vb nb cb) xs) :
  Calls Tryz.prog 22 #[.agg #[.bool u, .slice va na ca], .agg #[.bool u, .slice vb nb cb]] w fun e w' => e = .returned (.bool true) ∧ Same w w' := by
 have k := fun wx (hx : Same w wx) => sameE_any (.slice va na ca) (.slice vb nb cb) xs xs wx hB hB (ha.same hx) (hb.same hx)
 have hu : (u == u) = true := by simp
 have hx : decide (xs = xs) = true := by simp
 rw [hx] at k
 clear ha hb hB hx
 go_enter Tryz.func22, Tryz.ntmps22
 go_wp2_with fail
 refine (k _ (((Kept.refl _ _).alloc _).alloc _)).mono ?_
 rintro e w1 ⟨rfl, hk1⟩
 have HK := (show Hid (Same w w1) from (((Kept.refl _ _).alloc _).alloc _).trans hk1)
 clear k hk1
 go_wp2
 go_ret
 exact ⟨rfl, HK.out⟩
def recCells (p : StLogFrame) : List Value := p.cells.drop 2
structure RdI (w wr : World) (number frm : Int) (ps : List StLogFrame) (raw : List Int) (k : Nat) (a : Option Addr) (c : Nat) (E : List Int) : Prop where
 own : Own 0 5 .u8 wr (.slice a 4096 c) E
 new : ∀ b, (Value.slice a 4096 c).ownBlock = some b → w.heap.size < b
 isB : IsB E
 ok : ownOK E = true
 eq : redoL number frm raw (datFr ps) = redoL number frm E (datFr (ps.drop k))
 same : Same w wr
 res : Blk wr w.heap.size 38 [.int .i64 0, .slice none 0 0]
theorem RdI.on {w wr wx : World} {number frm : Int} {ps : List StLogFrame} {raw : List Int} {k : Nat} {a : Option Addr} {c : Nat} {E : List Int} (h : RdI w wr number frm ps raw k a c E) (hk : Same wr wx) : RdI w wx number frm ps raw k a c E :=
 ⟨h.own.same hk, h.new, h.isB, h.ok, h.eq, h.same.trans hk, h.res.same hk⟩
theorem RdI.next {w wr : World} {number frm : Int} {ps : List StLogFrame} {raw : List Int} {k : Nat} {a : Option Addr} {c : Nat} {E : List Int} (h : RdI w wr number frm ps raw k a c E) (hk : k < ps.length) (hs : skipF E number frm ps[k].dat) : RdI w wr number frm ps raw (k + 1) a c E :=
 ⟨h.own, h.new, h.isB, h.ok, by rw [h.eq, redoL_step hk, if_pos hs], h.same, h.res⟩
theorem RdI.put {w wr wx : World} {number frm : Int} {ps : List StLogFrame} {raw : List Int} {k : Nat} {a a' : Option Addr} {c c' : Nat} {E E' : List Int} (h : RdI w wr number frm ps raw k a c E) (hk : k < ps.length) (hs : ¬ skipF E number frm ps[k].dat) (hp : ps[k].isB) (h0 : (redoOne E ps[k].dat).1 = 0) (hE : (redoOne E ps[k].dat).2 = E')
  (ho : Own 0 5 .u8 wx (.slice a' 4096 c') E') (hn : ∀ b, (Value.slice a' 4096 c').ownBlock = some b → w.heap.size < b) (hw : Same w wx) (hr : Blk wx w.heap.size 38 [.int .i64 0, .slice none 0 0]) : RdI w wx number frm ps raw (k + 1) a' c' E' := by
 subst hE
 obtain ⟨h1, h2, h3⟩ := redoOne_ok h.isB h.ok (d := ps[k].dat) hp.2.1 h0
 exact ⟨ho, hn, h2, h1, by rw [h.eq, redoL_step hk, if_neg hs, if_pos h0], hw, hr⟩
theorem changes_any (p : StLogFrame) (w : World) : Calls Tryz.prog 56 #[.agg (recCells p).toArray] w fun e w' => e = .returned (.bool (decide (p.record.kind = 1 ∨ p.record.kind = 2))) ∧ Same w w' := by
 have e : (recCells p).toArray = #[.int .i64 p.record.kind, .int .i64 p.record.txn, .int .i64 p.record.prev, .int .i64 p.record.page, .int .i64 p.record.slot, .bool p.record.before.used, p.record.before.data.v, .bool p.record.after.used, p.record.after.data.v, .int .i64 p.record.uN, .int .i64 p.record.nT, p.record.txns.v, p.record.dirty.v, p.record.image.v] := rfl
 rw [e]
 clear e
 generalize p.record.kind = kd
 by_cases h1 : kd = 1
 ·subst h1
  rw [decide_eq_true (.inl rfl)]
  go_enter Tryz.func56, Tryz.ntmps56
  go_wp2
  go_ret
  exact ⟨rfl, (Kept.refl _ _).alloc _⟩
 by_cases h2 : kd = 2
 ·subst h2
  rw [decide_eq_true (.inr rfl)]
  go_enter Tryz.func56, Tryz.ntmps56
  go_wp2
  go_ret
  exact ⟨rfl, (Kept.refl _ _).alloc _⟩
 ·rw [decide_eq_false (by omega)]
  have e1 : (kd == 1) = false := by simp [h1]
  have e2 : (kd == 2) = false := by simp [h2]
  go_enter Tryz.func56, Tryz.ntmps56
  go_wp2
  go_ret
  exact ⟨rfl, (Kept.refl _ _).alloc _⟩
structure RdJ (w wr : World) (number frm : Int) (ps : List StLogFrame) (raw : List Int) (k P : Nat) (E : List Int) : Prop where
 pg : PgAt wr P E
 isB : IsB E
 ok : ownOK E = true
 eq : redoL number frm raw (datFr ps) = redoL number frm E (datFr (ps.drop k))
 same : Same w wr
 res : Blk wr w.heap.size 38 [.int .i64 0, .slice none 0 0]
theorem RdJ.on {w wr wx : World} {number frm : Int} {ps : List StLogFrame} {raw : List Int} {k P : Nat} {E : List Int} (h : RdJ w wr number frm ps raw k P E) (hk : Same wr wx) : RdJ w wx number frm ps raw k P E :=
 ⟨h.pg.same hk, h.isB, h.ok, h.eq, h.same.trans hk, h.res.same hk⟩
theorem RdJ.next {w wr : World} {number frm : Int} {ps : List StLogFrame} {raw : List Int} {k P : Nat} {E : List Int} (h : RdJ w wr number frm ps raw k P E) (hk : k < ps.length) (hs : skipF E number frm ps[k].dat) : RdJ w wr number frm ps raw (k + 1) P E :=
 ⟨h.pg, h.isB, h.ok, by rw [h.eq, redoL_step hk, if_pos hs], h.same, h.res⟩
theorem RdJ.put {w wr wx : World} {number frm : Int} {ps : List StLogFrame} {raw : List Int} {k P : Nat} {E E' : List Int} (h : RdJ w wr number frm ps raw k P E) (hk : k < ps.length) (hs : ¬ skipF E number frm ps[k].dat) (h0 : (redoOne E ps[k].dat).1 = 0) (hE : (redoOne E ps[k].dat).2 = E')
  (ho : PgAt wx P E') (h1 : ownOK E' = true) (h2 : IsB E') (hw : Same w wx) (hr : Blk wx w.heap.size 38 [.int .i64 0, .slice none 0 0]) : RdJ w wx number frm ps raw (k + 1) P E' := by
 subst hE
 exact ⟨ho, h2, h1, by rw [h.eq, redoL_step hk, if_neg hs, if_pos h0], hw, hr⟩
theorem implRedo_any (v : Value) (raw : List Int) (number : Int) (fv : Value) (ps : List StLogFrame) (frm : Int) (w : World) (hB : IsB raw) (hn : raw.length ≤ 1099511627776) (hv : Rd .u8 w v raw) (hfo : FrOK ps) (hf : RdFr w fv ps) :
  Calls Tryz.prog 20 #[v, .int .i64 number, fv, .int .i64 frm] w fun e w' => SetAns 71 w w' e (redoD raw number (datFr ps) frm).1 (redoD raw number (datFr ps) frm).2 := by
 have HK0 := hid (sameA w [.int .i64 0, .slice none 0 0] 38)
 have HB0 := hid (Blk.newL w [.int .i64 0, .slice none 0 0] 38)
 have hz0 : (w.alloc (.cells #[.int .i64 0, .slice none 0 0] 38)).heap.size = w.heap.size + 1 := by simp
 have HZ0 := hid hz0
 have hlen := hfo.len
 have HFO := hid hfo
 have HF := hid hf
 have HV := hid (hv.same HK0.out)
 have HB := hid hB
 obtain ⟨fa, fc, rfl⟩ := hf.form
 clear hfo hf hv hB hz0
 cases hok : ownOK raw with
 | false =>
  have kW := wellFormed_no v raw _ HB.out hn HV.out hok
  rw [show redoD raw number (datFr ps) frm = (1, []) from if_neg (fun h => by rw [(fault0.1 h).1] at hok; cases hok)]
  go_enter Tryz.func20, Tryz.ntmps20
  go_wp2_with fail
  refine kW.mono ?_
  rintro e w1 ⟨rfl, hk1⟩
  have HK1 := hid (HK0.out.trans hk1)
  obtain ⟨c0, c1⟩ := (HB0.out.same hk1).all2
  have f0 := (HB0.out.same hk1).frozen
  clear hk1
  go_wp2
  refine bodyPost_ret (v := .agg #[.int .i64 1, .slice none 0 0]) (by simp [results, Tryz.results20, go_sem, c0, c1]) rfl (SetAns.none 1 ?_)
  exact (HK1.out.setCell (p := ⟨w.heap.size, 0, none⟩) (.inl (Nat.le_refl _)) _).setCell (p := ⟨w.heap.size, 1, none⟩) (.inl (Nat.le_refl _)) _
 | true =>
 have kW := wellFormed_yes v raw _ HB.out hn HV.out hok
 have HOK := hid hok
 clear hok
 by_cases hnum : numAt raw 12 4 = number
 case neg =>
  rw [show redoD raw number (datFr ps) frm = (1, []) from if_neg (fun h => hnum (fault0.1 h).2)]
  have e0 : (numAt raw 12 4 == number) = false := by simp [hnum]
  generalize numAt raw 12 4 = nm at kW e0 hnum
  go_enter Tryz.func20, Tryz.ntmps20
  go_wp2_with fail
  refine kW.mono ?_
  rintro e w1 ⟨P, rfl, hP, hsp, hk1⟩
  have HK1 := hid (HK0.out.trans hk1)
  obtain ⟨c0, c1⟩ := (HB0.out.same hk1).all2
  have f0 := (HB0.out.same hk1).frozen
  obtain ⟨_, p5, _⟩ := hsp.num3
  clear hk1 hsp
  go_wp2
  refine bodyPost_ret (v := .agg #[.int .i64 1, .slice none 0 0]) (by simp [results, Tryz.results20, go_sem, c0, c1]) rfl (SetAns.none 1 ?_)
  exact (HK1.out.setCell (p := ⟨w.heap.size, 0, none⟩) (.inl (Nat.le_refl _)) _).setCell (p := ⟨w.heap.size, 1, none⟩) (.inl (Nat.le_refl _)) _
 have HD := (show Hid (redoD raw number (datFr ps) frm = redoL number frm raw (datFr ps)) from if_pos (fault0.2 ⟨HOK.out, hnum⟩))
 have HNM := hid hnum
 clear hnum
 obtain ⟨len, hlen0⟩ : ∃ n, ps.length = n := ⟨_, rfl⟩
 have HL := hid hlen0
 rw [hlen0] at hlen ⊢
 clear hlen0
 go_enter Tryz.func20, Tryz.ntmps20
 go_wp2_with fail
 refine kW.mono ?_
 rintro e w1 ⟨P, rfl, hP, hsp, hk1⟩
 rw [HZ0.out] at hP
 have HJ0 : Hid (RdJ w w1 number frm ps raw 0 P raw) := ⟨⟨raw, rfl, hsp⟩, HB.out, HOK.out, by simp, HK0.out.trans hk1, HB0.out.same hk1⟩
 obtain ⟨_, p5, _⟩ := hsp.num3
 rw [HNM.out] at p5
 clear hk1 hsp kW HK0 HB0 HZ0
 go_wp2_with fail
 clear p5
 go_loopw [28] (fun i wr => ∃ (k : Nat) (E : List Int), k ≤ len ∧ i = .int .i64 k ∧ Hid (RdJ w wr number frm ps raw k P E)) (fun i _ => len - (intOf i).toNat)
 case atStart => exact ⟨0, raw, Nat.zero_le _, rfl, HJ0⟩
 case round =>
  obtain ⟨k, E, hk, rfl, HJ⟩ := hrel
  by_cases hlt : k < len
  case neg =>
   obtain ⟨r2, hsp2, he2⟩ := HJ.out.pg.enc HJ.out.ok
   obtain ⟨n1, n2, n3⟩ := num3_own HJ.out.isB HJ.out.ok
   have hpt := ownOK_parts HJ.out.ok
   have hl2 := ownOK_len HJ.out.ok
   have kE := encode_any P _ _ _ _ _ _ wr hsp2 ⟨n1, n2, by omega, n3⟩
   rw [he2] at kE
   have kLs := fun wx => list_any E wx hl2
   obtain ⟨cs, hcs⟩ : ∃ cs : Array Value, (vals .u8 E).toArray = cs := ⟨_, rfl⟩
   rw [hcs] at kE kLs
   have HLE := hid hl2
   clear hcs n1 n2 n3 hpt hl2 hsp2 he2
   go_wp2_with fail
   refine kE.mono ?_
   rintro e w8 ⟨rfl, hk8⟩
   have HK8 := hid (HJ.out.same.trans hk8)
   have HR8 := hid (HJ.out.res.same hk8)
   clear hk8 kE
   go_wp2_with fail
   refine (kLs _).mono ?_
   rintro e w9 ⟨rfl, hb9, hk9⟩
   have HK9 := hid (HK8.out.trans hk9)
   have HR9 := hid (HR8.out.same hk9)
   have HO9 := (show Hid (Own 0 71 .u8 w9 (.slice (some ⟨w8.heap.size, 0, none⟩) 4096 4096) E) from by have h := Blk.own hb9 (by rw [HLE.out]; unfold maxLen; omega); rw [HLE.out] at h; exact h)
   have HZ8 := hid HR8.out.lt
   clear hk9 hb9 kLs
   obtain ⟨d0, d1⟩ := HR9.out.all2
   have ff := HR9.out.frozen
   have hlt0 := HR9.out.lt
   go_wp2
   have hfin := HJ.out.eq
   obtain rfl : k = len := by omega
   rw [← HL.out, List.drop_length, show datFr [] = [] from rfl, redoL, ← HD.out] at hfin
   rw [hfin]
   have hko : Kept (fun b => b = w.heap.size) w9 ((w9.setCell ⟨w.heap.size, 0, none⟩ (.int .i64 0)).setCell ⟨w.heap.size, 1, none⟩ (.slice (some ⟨w8.heap.size, 0, none⟩) 4096 4096)) := ((Kept.refl (fun b => b = w.heap.size) w9).setCell (p := ⟨w.heap.size, 0, none⟩) (.inr rfl) _).setCell (p := ⟨w.heap.size, 1, none⟩) (.inr rfl) _
   refine bodyPost_ret (v := .agg #[.int .i64 0, .slice (some ⟨w8.heap.size, 0, none⟩) 4096 4096]) (by simp [results, Tryz.results20, go_sem, d0, d1]) rfl ⟨some ⟨w8.heap.size, 0, none⟩, 4096, by simp only [HLE.out], fun b hb => ?_, ?_, ?_⟩
   ·have h : w8.heap.size = b := (by simpa [Value.ownBlock] using hb)
    have := HZ8.out
    omega
   ·simp only [HLE.out]
    exact HO9.out.kept hko (fun b hb e => by have h : w8.heap.size = b := (by simpa [Value.ownBlock] using hb); have := HZ8.out; omega)
   ·exact (HK9.out.setCell (p := ⟨w.heap.size, 0, none⟩) (.inl (Nat.le_refl _)) _).setCell (p := ⟨w.heap.size, 1, none⟩) (.inl (Nat.le_refl _)) _
  have hlp : k < ps.length := by rw [HL.out]; exact hlt
  obtain ⟨b, off, fc', hfa, hcell⟩ : ∃ b off c, Value.slice fa len fc = .slice (some ⟨b, off, none⟩) len c ∧ ∀ j i, (h : j < ps.length) → i < 16 → w.cell? ⟨b, off + (j * 16 + i), none⟩ = (kFr.cells ps[j])[i]? := by
   rcases HF.out.row.row with ⟨h, _⟩ | ⟨b, off, c, h, hc⟩
   ·rw [h] at hlp; simp at hlp
   ·exact ⟨b, off, c, by rw [← HL.out]; exact h, hc⟩
  injection hfa with hfa _ hfc
  subst hfa hfc
  have HFC := hid hcell
  clear hcell
  have HPB := hid (HFO.out.isB _ (List.getElem_mem hlp))
  have HPD := hid (HF.out.data _ (List.getElem_mem hlp))
  have HPZ := hid (HFO.out.each _ (List.getElem_mem hlp))
  have HNX := (show Hid (∀ wx, RdJ w wx number frm ps raw k P E → skipF E number frm ps[k].dat → RdJ w wx number frm ps raw (k + 1) P E) from fun wx h hs => h.next hlp hs)
  have HPUT := (show Hid (¬ skipF E number frm ps[k].dat → (redoOne E ps[k].dat).1 = 0 → ∀ wx, PgAt wx P (redoOne E ps[k].dat).2 → ownOK (redoOne E ps[k].dat).2 = true → IsB (redoOne E ps[k].dat).2 → Same w wx → Blk wx w.heap.size 38 [.int .i64 0, .slice none 0 0] → RdJ w wx number frm ps raw (k + 1) P (redoOne E ps[k].dat).2) from fun hs h0 wx ho h1 h2 hw hr => HJ.out.put hlp hs h0 rfl ho h1 h2 hw hr)
  have HBAD := (show Hid (¬ skipF E number frm ps[k].dat → ¬ (redoOne E ps[k].dat).1 = 0 → redoD raw number (datFr ps) frm = (2, [])) from fun hs h0 => by rw [HD.out, HJ.out.eq, redoL_step hlp, if_neg hs, if_neg h0])
  obtain ⟨cs, hcs⟩ : ∃ cs, kFr.cells ps[k] = cs := ⟨_, rfl⟩
  have hcl : cs.length = 16 := by rw [← hcs]; exact kFr.len _
  obtain ⟨rs, hrs⟩ : ∃ rs, recCells ps[k] = rs := ⟨_, rfl⟩
  have hrl : rs.length = 14 := by rw [← hrs]; rfl
  have hcr : ∀ j v, rs[j]? = some v → cs[2 + j]? = some v := fun j v h => by rw [← hcs]; rw [← hrs] at h; rw [← h]; exact (List.getElem?_drop ..).symm
  have HRG : Hid (wr.rangeAt b (off + k * 16) cs) := fun j v hv => by
   have hj : j < 16 := by have := (List.getElem?_eq_some_iff.1 hv).1; omega
   have h := HFC.out k j hlp hj
   rw [hcs, hv, ← Nat.add_assoc] at h
   exact HJ.out.same.cellOf h id
  have HIS : Hid ((Tryz.prog.info? 51).map (·.size) = some cs.length) := by unfold Hid; rw [hcl]; kernel_rfl
  have HIR : Hid ((Tryz.prog.info? 49).map (·.size) = some rs.length) := by unfold Hid; rw [hrl]; kernel_rfl
  have hone : cs.toArray.all (·.oneCell') = true := all_oneCell_toArray (fun v hv => by
   rw [← hcs] at hv
   simp only [kFr, StLogFrame.cells, List.mem_cons, List.not_mem_nil, or_false] at hv
   rcases hv with rfl | rfl | rfl | rfl | rfl | rfl | rfl | rfl | rfl | rfl | rfl | rfl | rfl | rfl | rfl | rfl <;> rfl)
  have hone2 : rs.toArray.all (·.oneCell') = true := all_oneCell_toArray (fun v hv => by
   rw [← hrs] at hv
   simp only [recCells, StLogFrame.cells, List.drop_succ_cons, List.drop_zero, List.mem_cons, List.not_mem_nil, or_false] at hv
   rcases hv with rfl | rfl | rfl | rfl | rfl | rfl | rfl | rfl | rfl | rfl | rfl | rfl | rfl | rfl <;> rfl)
  have hst := run_storeCells_new (P := Tryz.prog) wr 51 #[.int .i64 0, .int .i64 0, .int .i64 0, .int .i64 0, .int .i64 0, .int .i64 0, .int .i64 0, .bool false, .slice none 0 0, .bool false, .slice none 0 0, .int .i64 0, .int .i64 0, .slice none 0 0, .slice none 0 0, .slice none 0 0] cs.toArray (by rw [List.size_toArray]; exact HIS.out) (by simp [hcl]) hone
  rw [List.toList_toArray] at hst
  have HRG2 := (show Hid ((wr.alloc (.cells cs.toArray 51)).rangeAt wr.heap.size 2 rs) from (Blk.newL wr cs 51).range 2 rs hcr)
  have hst2 := run_storeCells_new (P := Tryz.prog) (wr.alloc (.cells cs.toArray 51)) 49 #[.int .i64 0, .int .i64 0, .int .i64 0, .int .i64 0, .int .i64 0, .bool false, .slice none 0 0, .bool false, .slice none 0 0, .int .i64 0, .int .i64 0, .slice none 0 0, .slice none 0 0, .slice none 0 0] rs.toArray (by rw [List.size_toArray]; exact HIR.out) (by simp [hrl]) hone2
  rw [List.toList_toArray, World.size_alloc] at hst2
  have HBF := (show Hid (Blk ((wr.alloc (.cells cs.toArray 51)).alloc (.cells rs.toArray 49)) wr.heap.size 51 cs) from (Blk.newL wr cs 51).alloc _)
  have HBS := (show Hid (Blk ((wr.alloc (.cells cs.toArray 51)).alloc (.cells rs.toArray 49)) (wr.heap.size + 1) 49 rs) from by have h := Blk.newL (wr.alloc (.cells cs.toArray 51)) rs 49; rw [World.size_alloc] at h; exact h)
  have HBR := (show Hid (Blk ((wr.alloc (.cells cs.toArray 51)).alloc (.cells rs.toArray 49)) (wr.heap.size + 1) 49 [.int .i64 ps[k].record.kind, .int .i64 ps[k].record.txn, .int .i64 ps[k].record.prev, .int .i64 ps[k].record.page, .int .i64 ps[k].record.slot, .bool ps[k].record.before.used, ps[k].record.before.data.v, .bool ps[k].record.after.used, ps[k].record.after.data.v, .int .i64 ps[k].record.uN, .int .i64 ps[k].record.nT, ps[k].record.txns.v, ps[k].record.dirty.v, ps[k].record.image.v]) from by
   have h := HBS.out
   have e : rs = [.int .i64 ps[k].record.kind, .int .i64 ps[k].record.txn, .int .i64 ps[k].record.prev, .int .i64 ps[k].record.page, .int .i64 ps[k].record.slot, .bool ps[k].record.before.used, ps[k].record.before.data.v, .bool ps[k].record.after.used, ps[k].record.after.data.v, .int .i64 ps[k].record.uN, .int .i64 ps[k].record.nT, ps[k].record.txns.v, ps[k].record.dirty.v, ps[k].record.image.v] := hrs.symm
   rw [← e]
   exact h)
  have hq0 : ((wr.alloc (.cells cs.toArray 51)).alloc (.cells rs.toArray 49)).cell? ⟨wr.heap.size, 0, none⟩ = some (.int .i64 ps[k].lsn) := by
   rw [HBF.out.cell 0, ← hcs]
   rfl
  have HW2 := (show Hid (Same wr ((wr.alloc (.cells cs.toArray 51)).alloc (.cells rs.toArray 49))) from ((Kept.refl _ _).alloc _).alloc _)
  have HWR := hid HJ.out.res.lt
  have HCH := (show Hid (∀ wx, Calls Tryz.prog 56 #[.agg rs.toArray] wx fun e w' => e = .returned (.bool (decide (ps[k].record.kind = 1 ∨ ps[k].record.kind = 2))) ∧ Same wx w') from fun wx => by rw [← hrs]; exact changes_any ps[k] wx)
  have HSP := (show Hid (skipF E number frm ps[k].dat ↔ ((¬ ps[k].record.kind = 1 ∧ ¬ ps[k].record.kind = 2) ∨ ¬ ps[k].record.page = number ∨ ps[k].lsn < frm ∨ ps[k].lsn ≤ pageLSN E)) from Iff.rfl)
  have HLS := (show Hid (pageLSN E = numAt E 4 8) from if_pos HJ.out.ok)
  rw [HLS.out] at HSP
  have HRO := (show Hid (redoOne E ps[k].dat = pageSet E ps[k].record.slot ps[k].record.after.used ps[k].record.after.data.bs ps[k].lsn) from rfl)
  have HRDA := (show Hid (Rd .u8 w ps[k].record.after.data.v ps[k].record.after.data.bs) from HPD.out.2.1)
  have HAB := (show Hid (IsB ps[k].record.after.data.bs) from HPB.out.2.1)
  have HDN := (show Hid (ps[k].record.after.data.bs.length ≤ 1099511627776) from by
   have h := HPZ.out
   have h1 := HPD.out.2.2.1.2.1
   have h2 := HPD.out.2.2.2.1.2.1
   simp only [StLogFrame.szs, StLogRecord.szs, StPageRecord.szs] at h
   unfold Hid
   omega)
  obtain ⟨ta, tc, hta⟩ : ∃ ta tc, ps[k].record.after.data.v = .slice ta ps[k].record.after.data.bs.length tc := ⟨_, _, rfl⟩
  rw [hta] at HBR HRDA
  generalize skipF E number frm ps[k].dat = SK at HNX HPUT HBAD HSP
  generalize redoOne E ps[k].dat = RO at HPUT HBAD HRO
  generalize ps[k].record.kind = kd at HBR HSP HCH
  generalize ps[k].record.page = pg at HBR HSP
  generalize ps[k].lsn = ls at hq0 HSP HRO
  generalize ps[k].record.slot = sn at HBR HRO
  generalize ps[k].record.after.used = us at HBR HRO
  generalize ps[k].record.after.data.bs = ad at HBR HRO HRDA HDN hta HAB
  generalize ps[k].record.after.data.v = av at hta
  clear hta
  clear hcs hrs hcr hone hone2 HPB HPD HPZ HFC
  go_upto_region 8 with (first | (refine wpList_load_mid rfl 51 _ rfl b (off + k * 16) rfl cs _ HRG.out Tryz.underlying51 rfl HIS.out ?_) | (refine wpList_load_mid rfl 49 _ rfl wr.heap.size 2 rfl rs _ HRG2.out Tryz.underlying49 rfl HIR.out ?_))
  clear hst hst2 HRG HRG2 HIS hcl
  generalize (wr.alloc (.cells cs.toArray 51)).alloc (.cells rs.toArray 49) = w3 at HBR HBS HBF HW2 hq0 ⊢
  have HJ3 := hid (HJ.out.on HW2.out)
  have hz3 := HW2.out.size
  have HBg : Hid (w.heap.size < wr.heap.size) := HWR.out
  obtain ⟨r3, _, hsp3⟩ := HJ3.out.pg
  obtain ⟨p4, _, _⟩ := hsp3.num3
  have hrg3 := HBS.out.rangeAll
  clear HW2 HJ HWR hsp3 HBF HBS
  obtain ⟨L, hL⟩ : ∃ L, numAt E 4 8 = L := ⟨_, rfl⟩
  rw [hL] at HSP p4
  clear hL HLS
  obtain ⟨q, hq⟩ : ∃ q : Bool, (q = true ↔ SK) := by
   by_cases h : SK
   ·exact ⟨true, by simp [h]⟩
   ·exact ⟨false, by simp [h]⟩
  have HQ := hid hq
  clear hq
  go_cut [57] (fun v wx => v = .bool q ∧ Hid (Same w3 wx))
  case first =>
   by_cases hkd : kd = 1 ∨ kd = 2
   case neg =>
    have hch : decide (kd = 1 ∨ kd = 2) = false := decide_eq_false hkd
    have hqq : q = true := HQ.out.2 (HSP.out.2 (.inl ⟨fun h => hkd (.inl h), fun h => hkd (.inr h)⟩))
    let Y1 : World → Prop := fun wx : World => wx.rangeAt (wr.heap.size + 1) 0 rs ∧ wx.cell? ⟨wr.heap.size + 1, 3, none⟩ = some (.int .i64 pg) ∧ wx.cell? ⟨wr.heap.size, 0, none⟩ = some (.int .i64 ls) ∧ wx.cell? ⟨P, 4, none⟩ = some (.int .i64 L)
    have hS : Y1 w3.drew := ⟨hrg3, HBR.out.cell 3, hq0, p4⟩
    refine wp_region_V Y1 99 24 rfl (by kernel_rfl) ?_
    refine wpAnyV_take (i := 0) (v := .agg rs.toArray) (some 34) rfl rfl (by kernel_rfl) (by kernel_rfl) (by kernel_rfl) (by kernel_rfl) (fun _ _ _ h => h) (yieldsIf_load_mid rfl 49 _ rfl (wr.heap.size + 1) 0 rfl rs _ (fun w h => h.1) Tryz.underlying49 rfl HIR.out) hS ?_
    try simp only [Act.put, sA, s0, sS]
    refine wpAnyV_one (i := 1) (by kernel_rfl) rfl (fun K hK => ?_)
    go_simp
    refine (HCH.out _).mono ?_
    rintro e w4 ⟨rfl, hk4⟩
    rw [hch]
    have hS : Y1 w4 := ⟨Kept.ranges hk4 hS.1, hk4.cellOf hS.2.1 id, hk4.cellOf hS.2.2.1 id, hk4.cellOf hS.2.2.2 id⟩
    have HK4 : Hid (Same w3 w4) := (Kept.refl _ _).drew.trans hk4
    go_wp2_with fail
    refine hK.out _ _ (fun _ => hS) ?_
    clear hK K hk4
    try simp only [Act.put, sA, s0, sS]
    refine tkV 2 36 (.bool true) hS ?_
    refine tk 3 37 hS ?_
    refine tkS 4 38 hS ?_
    refine tkS 5 39 hS ?_
    refine tkS 6 40 hS ?_
    refine tkS 7 41 hS ?_
    refine tk 8 42 hS ?_
    refine tk 9 43 hS ?_
    refine tkS 10 44 hS ?_
    refine tkS 11 45 hS ?_
    refine tkS 12 46 hS ?_
    refine tkS 13 47 hS ?_
    refine tk 14 48 hS ?_
    refine tk 15 49 hS ?_
    refine tkS 16 50 hS ?_
    refine tkS 17 51 hS ?_
    refine tkS 18 52 hS ?_
    refine tkS 19 53 hS ?_
    refine tkS 20 54 hS ?_
    refine tkS 21 55 hS ?_
    refine tkS 22 56 hS ?_
    refine tk 23 57 hS ?_
    refine wpAnyV_done (by kernel_rfl) ?_
    clear hS
    go_wp2_with fail
    go_meet
    case rel => exact ⟨by rw [hqq], HK4⟩
   have hch : decide (kd = 1 ∨ kd = 2) = true := decide_eq_true hkd
   by_cases hp : pg = number
   case neg =>
    have hqq : q = true := HQ.out.2 (HSP.out.2 (.inr (.inl hp)))
    let Y2 : World → Prop := fun wx : World => wx.rangeAt (wr.heap.size + 1) 0 rs ∧ wx.cell? ⟨wr.heap.size + 1, 3, none⟩ = some (.int .i64 pg) ∧ wx.cell? ⟨wr.heap.size, 0, none⟩ = some (.int .i64 ls) ∧ wx.cell? ⟨P, 4, none⟩ = some (.int .i64 L)
    have hS : Y2 w3.drew := ⟨hrg3, HBR.out.cell 3, hq0, p4⟩
    refine wp_region_V Y2 99 24 rfl (by kernel_rfl) ?_
    refine wpAnyV_take (i := 0) (v := .agg rs.toArray) (some 34) rfl rfl (by kernel_rfl) (by kernel_rfl) (by kernel_rfl) (by kernel_rfl) (fun _ _ _ h => h) (yieldsIf_load_mid rfl 49 _ rfl (wr.heap.size + 1) 0 rfl rs _ (fun w h => h.1) Tryz.underlying49 rfl HIR.out) hS ?_
    try simp only [Act.put, sA, s0, sS]
    refine wpAnyV_one (i := 1) (by kernel_rfl) rfl (fun K hK => ?_)
    go_simp
    refine (HCH.out _).mono ?_
    rintro e w4 ⟨rfl, hk4⟩
    rw [hch]
    have hS : Y2 w4 := ⟨Kept.ranges hk4 hS.1, hk4.cellOf hS.2.1 id, hk4.cellOf hS.2.2.1 id, hk4.cellOf hS.2.2.2 id⟩
    have HK4 : Hid (Same w3 w4) := (Kept.refl _ _).drew.trans hk4
    go_wp2_with fail
    refine hK.out _ _ (fun _ => hS) ?_
    clear hK K hk4
    try simp only [Act.put, sA, s0, sS]
    refine tkV 2 36 (.bool false) hS ?_
    refine tk 3 37 hS ?_
    refine tk 4 38 hS ?_
    refine tk 5 39 hS ?_
    refine tk 6 40 hS ?_
    refine tkV 7 41 (.bool true) hS ?_
    refine tk 8 42 hS ?_
    refine tk 9 43 hS ?_
    refine tkS 10 44 hS ?_
    refine tkS 11 45 hS ?_
    refine tkS 12 46 hS ?_
    refine tkS 13 47 hS ?_
    refine tk 14 48 hS ?_
    refine tk 15 49 hS ?_
    refine tkS 16 50 hS ?_
    refine tkS 17 51 hS ?_
    refine tkS 18 52 hS ?_
    refine tkS 19 53 hS ?_
    refine tkS 20 54 hS ?_
    refine tkS 21 55 hS ?_
    refine tkS 22 56 hS ?_
    refine tk 23 57 hS ?_
    refine wpAnyV_done (by kernel_rfl) ?_
    clear hS
    go_wp2_with fail
    go_meet
    case rel => exact ⟨by rw [hqq], HK4⟩
   by_cases hf : ls < frm
   case pos =>
    have hqq : q = true := HQ.out.2 (HSP.out.2 (.inr (.inr (.inl hf))))
    let Y3 : World → Prop := fun wx : World => wx.rangeAt (wr.heap.size + 1) 0 rs ∧ wx.cell? ⟨wr.heap.size + 1, 3, none⟩ = some (.int .i64 pg) ∧ wx.cell? ⟨wr.heap.size, 0, none⟩ = some (.int .i64 ls) ∧ wx.cell? ⟨P, 4, none⟩ = some (.int .i64 L)
    have hS : Y3 w3.drew := ⟨hrg3, HBR.out.cell 3, hq0, p4⟩
    refine wp_region_V Y3 99 24 rfl (by kernel_rfl) ?_
    refine wpAnyV_take (i := 0) (v := .agg rs.toArray) (some 34) rfl rfl (by kernel_rfl) (by kernel_rfl) (by kernel_rfl) (by kernel_rfl) (fun _ _ _ h => h) (yieldsIf_load_mid rfl 49 _ rfl (wr.heap.size + 1) 0 rfl rs _ (fun w h => h.1) Tryz.underlying49 rfl HIR.out) hS ?_
    try simp only [Act.put, sA, s0, sS]
    refine wpAnyV_one (i := 1) (by kernel_rfl) rfl (fun K hK => ?_)
    go_simp
    refine (HCH.out _).mono ?_
    rintro e w4 ⟨rfl, hk4⟩
    rw [hch]
    have hS : Y3 w4 := ⟨Kept.ranges hk4 hS.1, hk4.cellOf hS.2.1 id, hk4.cellOf hS.2.2.1 id, hk4.cellOf hS.2.2.2 id⟩
    have HK4 : Hid (Same w3 w4) := (Kept.refl _ _).drew.trans hk4
    go_wp2_with fail
    refine hK.out _ _ (fun _ => hS) ?_
    clear hK K hk4
    try simp only [Act.put, sA, s0, sS]
    refine tkV 2 36 (.bool false) hS ?_
    refine tk 3 37 hS ?_
    refine tk 4 38 hS ?_
    refine tk 5 39 hS ?_
    refine tk 6 40 hS ?_
    refine tkV 7 41 (.bool false) hS ?_
    refine tk 8 42 hS ?_
    refine tk 9 43 hS ?_
    refine tk 10 44 hS ?_
    refine tk 11 45 hS ?_
    refine tk 12 46 hS ?_
    refine tkV 13 47 (.bool true) hS ?_
    refine tk 14 48 hS ?_
    refine tk 15 49 hS ?_
    refine tkS 16 50 hS ?_
    refine tkS 17 51 hS ?_
    refine tkS 18 52 hS ?_
    refine tkS 19 53 hS ?_
    refine tkS 20 54 hS ?_
    refine tkS 21 55 hS ?_
    refine tkS 22 56 hS ?_
    refine tk 23 57 hS ?_
    refine wpAnyV_done (by kernel_rfl) ?_
    clear hS
    go_wp2_with fail
    go_meet
    case rel => exact ⟨by rw [hqq], HK4⟩
   by_cases hg : ls ≤ L
   case pos =>
    have hqq : q = true := HQ.out.2 (HSP.out.2 (.inr (.inr (.inr hg))))
    let Y4 : World → Prop := fun wx : World => wx.rangeAt (wr.heap.size + 1) 0 rs ∧ wx.cell? ⟨wr.heap.size + 1, 3, none⟩ = some (.int .i64 pg) ∧ wx.cell? ⟨wr.heap.size, 0, none⟩ = some (.int .i64 ls) ∧ wx.cell? ⟨P, 4, none⟩ = some (.int .i64 L)
    have hS : Y4 w3.drew := ⟨hrg3, HBR.out.cell 3, hq0, p4⟩
    refine wp_region_V Y4 99 24 rfl (by kernel_rfl) ?_
    refine wpAnyV_take (i := 0) (v := .agg rs.toArray) (some 34) rfl rfl (by kernel_rfl) (by kernel_rfl) (by kernel_rfl) (by kernel_rfl) (fun _ _ _ h => h) (yieldsIf_load_mid rfl 49 _ rfl (wr.heap.size + 1) 0 rfl rs _ (fun w h => h.1) Tryz.underlying49 rfl HIR.out) hS ?_
    try simp only [Act.put, sA, s0, sS]
    refine wpAnyV_one (i := 1) (by kernel_rfl) rfl (fun K hK => ?_)
    go_simp
    refine (HCH.out _).mono ?_
    rintro e w4 ⟨rfl, hk4⟩
    rw [hch]
    have hS : Y4 w4 := ⟨Kept.ranges hk4 hS.1, hk4.cellOf hS.2.1 id, hk4.cellOf hS.2.2.1 id, hk4.cellOf hS.2.2.2 id⟩
    have HK4 : Hid (Same w3 w4) := (Kept.refl _ _).drew.trans hk4
    go_wp2_with fail
    refine hK.out _ _ (fun _ => hS) ?_
    clear hK K hk4
    try simp only [Act.put, sA, s0, sS]
    refine tkV 2 36 (.bool false) hS ?_
    refine tk 3 37 hS ?_
    refine tk 4 38 hS ?_
    refine tk 5 39 hS ?_
    refine tk 6 40 hS ?_
    refine tkV 7 41 (.bool false) hS ?_
    refine tk 8 42 hS ?_
    refine tk 9 43 hS ?_
    refine tk 10 44 hS ?_
    refine tk 11 45 hS ?_
    refine tk 12 46 hS ?_
    refine tkV 13 47 (.bool false) hS ?_
    refine tk 14 48 hS ?_
    refine tk 15 49 hS ?_
    refine tk 16 50 hS ?_
    refine tk 17 51 hS ?_
    refine tk 18 52 hS ?_
    refine tk 19 53 hS ?_
    refine tk 20 54 hS ?_
    refine tk 21 55 hS ?_
    refine tkV 22 56 (.bool true) hS ?_
    refine tk 23 57 hS ?_
    refine wpAnyV_done (by kernel_rfl) ?_
    clear hS
    go_wp2_with fail
    go_meet
    case rel => exact ⟨by rw [hqq], HK4⟩
   have hqq : q = false := by
    cases hq : q with
    | false => rfl
    | true => have := HSP.out.1 (HQ.out.1 hq); omega
   let Y5 : World → Prop := fun wx : World => wx.rangeAt (wr.heap.size + 1) 0 rs ∧ wx.cell? ⟨wr.heap.size + 1, 3, none⟩ = some (.int .i64 pg) ∧ wx.cell? ⟨wr.heap.size, 0, none⟩ = some (.int .i64 ls) ∧ wx.cell? ⟨P, 4, none⟩ = some (.int .i64 L)
   have hS : Y5 w3.drew := ⟨hrg3, HBR.out.cell 3, hq0, p4⟩
   refine wp_region_V Y5 99 24 rfl (by kernel_rfl) ?_
   refine wpAnyV_take (i := 0) (v := .agg rs.toArray) (some 34) rfl rfl (by kernel_rfl) (by kernel_rfl) (by kernel_rfl) (by kernel_rfl) (fun _ _ _ h => h) (yieldsIf_load_mid rfl 49 _ rfl (wr.heap.size + 1) 0 rfl rs _ (fun w h => h.1) Tryz.underlying49 rfl HIR.out) hS ?_
   try simp only [Act.put, sA, s0, sS]
   refine wpAnyV_one (i := 1) (by kernel_rfl) rfl (fun K hK => ?_)
   go_simp
   refine (HCH.out _).mono ?_
   rintro e w4 ⟨rfl, hk4⟩
   rw [hch]
   have hS : Y5 w4 := ⟨Kept.ranges hk4 hS.1, hk4.cellOf hS.2.1 id, hk4.cellOf hS.2.2.1 id, hk4.cellOf hS.2.2.2 id⟩
   have HK4 : Hid (Same w3 w4) := (Kept.refl _ _).drew.trans hk4
   go_wp2_with fail
   refine hK.out _ _ (fun _ => hS) ?_
   clear hK K hk4
   try simp only [Act.put, sA, s0, sS]
   refine tkV 2 36 (.bool false) hS ?_
   refine tk 3 37 hS ?_
   refine tk 4 38 hS ?_
   refine tk 5 39 hS ?_
   refine tk 6 40 hS ?_
   refine tkV 7 41 (.bool false) hS ?_
   refine tk 8 42 hS ?_
   refine tk 9 43 hS ?_
   refine tk 10 44 hS ?_
   refine tk 11 45 hS ?_
   refine tk 12 46 hS ?_
   refine tkV 13 47 (.bool false) hS ?_
   refine tk 14 48 hS ?_
   refine tk 15 49 hS ?_
   refine tk 16 50 hS ?_
   refine tk 17 51 hS ?_
   refine tk 18 52 hS ?_
   refine tk 19 53 hS ?_
   refine tk 20 54 hS ?_
   refine tk 21 55 hS ?_
   refine tkV 22 56 (.bool false) hS ?_
   refine tk 23 57 hS ?_
   refine wpAnyV_done (by kernel_rfl) ?_
   clear hS
   go_wp2_with fail
   go_meet
   case rel => exact ⟨by rw [hqq], HK4⟩
  case rest =>
  obtain ⟨rfl, HS3⟩ := hcut
  have HJ4 := hid (HJ3.out.on HS3.out)
  have HB4 := hid (HBR.out.same HS3.out)
  have hq4 := HS3.out.cellOf hq0 id
  have hz4 := HS3.out.size
  clear HBR hq0 HJ3 HS3 HSP HCH p4 hrg3
  cases q with
  | true =>
   have hs := HQ.out.1 rfl
   go_wp2_with fail
   go_roundw
   case rel => exact ⟨k + 1, E, by omega, by go_num, HNX.out _ HJ4.out hs⟩
   case measure => simp [intOf]; omega
  | false =>
   have HNS : Hid (¬ SK) := fun h => by have := HQ.out.2 h; cases this
   have HKC := (show Hid (∀ wx, RdJ w wx number frm ps raw k P E → Calls Tryz.prog 40 #[.pointer (some ⟨P, 0, none⟩), .int .i64 sn, .agg #[.bool us, .slice ta ad.length tc], .int .i64 ls] wx fun e w' => ChR wx w' P RO.1 RO.2 e) from fun wx h => by rw [HRO.out]; exact change_any P E sn us ta tc ad ls wx w h.isB h.ok h.pg HDN.out HRDA.out (by omega) (HRDA.out.same h.same) HAB.out)
   generalize ad.length = an at HB4 HKC
   have d4 := HB4.out.cell 4
   have d7 := HB4.out.cell 7
   have d8 := HB4.out.cell 8
   obtain ⟨x, ys⟩ := RO
   dsimp only at HKC HPUT HBAD
   clear HNX HQ HRO HDN HRDA HAB
   go_wp2_with fail
   refine (HKC.out _ HJ4.out).mono ?_
   rintro e w5 ⟨rfl, hk5, hx⟩
   have HR5 := hid (HJ4.out.res.kept hk5 (fun e => by omega))
   have HW5 := hid (HJ4.out.same.next hk5 (fun i hi e => by omega))
   clear hk5 d4 d7 d8 HKC
   rcases hx with ⟨rfl, hpg, hok5, hB5⟩ | ⟨hx0, rfl⟩
   ·have HN5 := hid (HPUT.out HNS.out rfl _ hpg hok5 hB5 HW5.out HR5.out)
    go_wp2_with fail
    go_roundw
    case rel => exact ⟨k + 1, ys, by omega, by go_num, HN5⟩
    case measure => simp [intOf]; omega
   ·have HBD := hid (HBAD.out HNS.out hx0)
    have ex : (x == 0) = false := by simp [hx0]
    obtain ⟨d0, d1⟩ := HR5.out.all2
    have ff := HR5.out.frozen
    have hlt0 := HR5.out.lt
    go_wp2
    rw [HBD.out]
    refine bodyPost_ret (v := .agg #[.int .i64 2, .slice none 0 0]) (by simp [results, Tryz.results20, go_sem, d0, d1]) rfl (SetAns.none 2 ?_)
    exact (HW5.out.setCell (p := ⟨w.heap.size, 0, none⟩) (.inl (Nat.le_refl _)) _).setCell (p := ⟨w.heap.size, 1, none⟩) (.inl (Nat.le_refl _)) _
end Go.Proofs.YtdbpaadndaoihaaGreatDoor
