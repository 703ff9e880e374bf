import Derived.Test.YtbilnlgjpchgiaaDoorG08
import Derived.Test.YtbilnlgjpchgiaaDoorG01
import Derived.Test.YtbilnlgjpchgiaaDoorG02
import Derived.Deep.RegionWith
import Derived.Deep.DeepMust
import Derived.Deep.DeepCutAuto
import Derived.Deep.MidRow
namespace Go.Proofs.YtbilnlgjpchgiaaDoor
set_option maxRecDepth 100000
set_option maxHeartbeats 16000000
set_option linter.unusedVariables false
set_option linter.unusedSimpArgs false
open Go.RowKit Go
def wsD (d : StDat) (n : List UInt8) : List UInt8 := if n = [116, 120, 110] then Lib.itoa d.2.1 else if n = [105, 100] then Lib.itoa d.2.2.1 else if n = [99, 111, 117, 110, 116] then Lib.itoa d.2.2.2.1 else if n = [107, 101, 101, 112] then kpW d.2.2.2.2.2 else hxW d.2.2.2.2.1
theorem stepI_1 (x : StStep) (w : World) (hk : x.kd = 1) (h : StStep.ln w x) (ht : Tabs w) :
    Calls Tryd.prog 28 #[.agg #[.int .i64 x.kd, .int .i64 x.tx, .int .i64 x.rid, .int .i64 x.cnt, x.data.v, x.keep.v]] w fun e w' => e = .returned (.string (Tx (lnS x.dat))) ∧ Same w w' := by
  have hE : lnS x.dat = Lib.join ([98, 101, 103, 105, 110] :: ([] : List (List UInt8)).map (wsD x.dat)) [32] ++ [10] := by unfold lnS wdS; simp only [StStep.dat, hk]; rfl
  have hl := wd_len x.dat h.dl h.kl h.ok.tx h.ok.rid h.ok.cnt
  rw [hE] at hl ⊢
  rw [List.length_append] at hl
  exact stepI_of x w 1 [98, 101, 103, 105, 110] [] (wsD x.dat) hk (by decide) (by decide) (fun j b hb => (show ∀ b ∈ frmS 1, b.toNat < 128 from by decide) b (List.mem_of_getElem? hb)) (by decide) (by decide) ht (fun n hn => by simp at hn) (by omega)
theorem stepI_2 (x : StStep) (w : World) (hk : x.kd = 2) (h : StStep.ln w x) (ht : Tabs w) :
    Calls Tryd.prog 28 #[.agg #[.int .i64 x.kd, .int .i64 x.tx, .int .i64 x.rid, .int .i64 x.cnt, x.data.v, x.keep.v]] w fun e w' => e = .returned (.string (Tx (lnS x.dat))) ∧ Same w w' := by
  have hE : lnS x.dat = Lib.join ([105, 110, 115, 101, 114, 116] :: [[116, 120, 110], [100, 97, 116, 97]].map (wsD x.dat)) [32] ++ [10] := by unfold lnS wdS; simp only [StStep.dat, hk]; rfl
  have hl := wd_len x.dat h.dl h.kl h.ok.tx h.ok.rid h.ok.cnt
  rw [hE] at hl ⊢
  rw [List.length_append] at hl
  exact stepI_of x w 2 [105, 110, 115, 101, 114, 116] [[116, 120, 110], [100, 97, 116, 97]] (wsD x.dat) hk (by decide) (by decide) (fun j b hb => (show ∀ b ∈ frmS 2, b.toNat < 128 from by decide) b (List.mem_of_getElem? hb)) (by decide) (by decide) ht (fun n hn wx hk2 => by
    simp only [List.mem_cons, List.not_mem_nil, or_false] at hn
    rcases hn with rfl | rfl
    · exact fieldI_txn x wx (h.same hk2) (ht.same hk2)
    · exact fieldI_data x wx (h.same hk2) (ht.same hk2)) (by omega)
theorem stepI_3 (x : StStep) (w : World) (hk : x.kd = 3) (h : StStep.ln w x) (ht : Tabs w) :
    Calls Tryd.prog 28 #[.agg #[.int .i64 x.kd, .int .i64 x.tx, .int .i64 x.rid, .int .i64 x.cnt, x.data.v, x.keep.v]] w fun e w' => e = .returned (.string (Tx (lnS x.dat))) ∧ Same w w' := by
  have hE : lnS x.dat = Lib.join ([117, 112, 100, 97, 116, 101] :: [[116, 120, 110], [105, 100], [100, 97, 116, 97]].map (wsD x.dat)) [32] ++ [10] := by unfold lnS wdS; simp only [StStep.dat, hk]; rfl
  have hl := wd_len x.dat h.dl h.kl h.ok.tx h.ok.rid h.ok.cnt
  rw [hE] at hl ⊢
  rw [List.length_append] at hl
  exact stepI_of x w 3 [117, 112, 100, 97, 116, 101] [[116, 120, 110], [105, 100], [100, 97, 116, 97]] (wsD x.dat) hk (by decide) (by decide) (fun j b hb => (show ∀ b ∈ frmS 3, b.toNat < 128 from by decide) b (List.mem_of_getElem? hb)) (by decide) (by decide) ht (fun n hn wx hk2 => by
    simp only [List.mem_cons, List.not_mem_nil, or_false] at hn
    rcases hn with rfl | rfl | rfl
    · exact fieldI_txn x wx (h.same hk2) (ht.same hk2)
    · exact fieldI_id x wx (h.same hk2) (ht.same hk2)
    · exact fieldI_data x wx (h.same hk2) (ht.same hk2)) (by omega)
theorem stepI_4 (x : StStep) (w : World) (hk : x.kd = 4) (h : StStep.ln w x) (ht : Tabs w) :
    Calls Tryd.prog 28 #[.agg #[.int .i64 x.kd, .int .i64 x.tx, .int .i64 x.rid, .int .i64 x.cnt, x.data.v, x.keep.v]] w fun e w' => e = .returned (.string (Tx (lnS x.dat))) ∧ Same w w' := by
  have hE : lnS x.dat = Lib.join ([100, 101, 108, 101, 116, 101] :: [[116, 120, 110], [105, 100]].map (wsD x.dat)) [32] ++ [10] := by unfold lnS wdS; simp only [StStep.dat, hk]; rfl
  have hl := wd_len x.dat h.dl h.kl h.ok.tx h.ok.rid h.ok.cnt
  rw [hE] at hl ⊢
  rw [List.length_append] at hl
  exact stepI_of x w 4 [100, 101, 108, 101, 116, 101] [[116, 120, 110], [105, 100]] (wsD x.dat) hk (by decide) (by decide) (fun j b hb => (show ∀ b ∈ frmS 4, b.toNat < 128 from by decide) b (List.mem_of_getElem? hb)) (by decide) (by decide) ht (fun n hn wx hk2 => by
    simp only [List.mem_cons, List.not_mem_nil, or_false] at hn
    rcases hn with rfl | rfl
    · exact fieldI_txn x wx (h.same hk2) (ht.same hk2)
    · exact fieldI_id x wx (h.same hk2) (ht.same hk2)) (by omega)
theorem stepI_5 (x : StStep) (w : World) (hk : x.kd = 5) (h : StStep.ln w x) (ht : Tabs w) :
    Calls Tryd.prog 28 #[.agg #[.int .i64 x.kd, .int .i64 x.tx, .int .i64 x.rid, .int .i64 x.cnt, x.data.v, x.keep.v]] w fun e w' => e = .returned (.string (Tx (lnS x.dat))) ∧ Same w w' := by
  have hE : lnS x.dat = Lib.join ([114, 101, 97, 100] :: [[116, 120, 110], [105, 100]].map (wsD x.dat)) [32] ++ [10] := by unfold lnS wdS; simp only [StStep.dat, hk]; rfl
  have hl := wd_len x.dat h.dl h.kl h.ok.tx h.ok.rid h.ok.cnt
  rw [hE] at hl ⊢
  rw [List.length_append] at hl
  exact stepI_of x w 5 [114, 101, 97, 100] [[116, 120, 110], [105, 100]] (wsD x.dat) hk (by decide) (by decide) (fun j b hb => (show ∀ b ∈ frmS 5, b.toNat < 128 from by decide) b (List.mem_of_getElem? hb)) (by decide) (by decide) ht (fun n hn wx hk2 => by
    simp only [List.mem_cons, List.not_mem_nil, or_false] at hn
    rcases hn with rfl | rfl
    · exact fieldI_txn x wx (h.same hk2) (ht.same hk2)
    · exact fieldI_id x wx (h.same hk2) (ht.same hk2)) (by omega)
theorem stepI_6 (x : StStep) (w : World) (hk : x.kd = 6) (h : StStep.ln w x) (ht : Tabs w) :
    Calls Tryd.prog 28 #[.agg #[.int .i64 x.kd, .int .i64 x.tx, .int .i64 x.rid, .int .i64 x.cnt, x.data.v, x.keep.v]] w fun e w' => e = .returned (.string (Tx (lnS x.dat))) ∧ Same w w' := by
  have hE : lnS x.dat = Lib.join ([99, 111, 109, 109, 105, 116] :: [[116, 120, 110]].map (wsD x.dat)) [32] ++ [10] := by unfold lnS wdS; simp only [StStep.dat, hk]; rfl
  have hl := wd_len x.dat h.dl h.kl h.ok.tx h.ok.rid h.ok.cnt
  rw [hE] at hl ⊢
  rw [List.length_append] at hl
  exact stepI_of x w 6 [99, 111, 109, 109, 105, 116] [[116, 120, 110]] (wsD x.dat) hk (by decide) (by decide) (fun j b hb => (show ∀ b ∈ frmS 6, b.toNat < 128 from by decide) b (List.mem_of_getElem? hb)) (by decide) (by decide) ht (fun n hn wx hk2 => by
    simp only [List.mem_cons, List.not_mem_nil, or_false] at hn
    rcases hn with rfl
    · exact fieldI_txn x wx (h.same hk2) (ht.same hk2)) (by omega)
theorem stepI_7 (x : StStep) (w : World) (hk : x.kd = 7) (h : StStep.ln w x) (ht : Tabs w) :
    Calls Tryd.prog 28 #[.agg #[.int .i64 x.kd, .int .i64 x.tx, .int .i64 x.rid, .int .i64 x.cnt, x.data.v, x.keep.v]] w fun e w' => e = .returned (.string (Tx (lnS x.dat))) ∧ Same w w' := by
  have hE : lnS x.dat = Lib.join ([97, 98, 111, 114, 116] :: [[116, 120, 110]].map (wsD x.dat)) [32] ++ [10] := by unfold lnS wdS; simp only [StStep.dat, hk]; rfl
  have hl := wd_len x.dat h.dl h.kl h.ok.tx h.ok.rid h.ok.cnt
  rw [hE] at hl ⊢
  rw [List.length_append] at hl
  exact stepI_of x w 7 [97, 98, 111, 114, 116] [[116, 120, 110]] (wsD x.dat) hk (by decide) (by decide) (fun j b hb => (show ∀ b ∈ frmS 7, b.toNat < 128 from by decide) b (List.mem_of_getElem? hb)) (by decide) (by decide) ht (fun n hn wx hk2 => by
    simp only [List.mem_cons, List.not_mem_nil, or_false] at hn
    rcases hn with rfl
    · exact fieldI_txn x wx (h.same hk2) (ht.same hk2)) (by omega)
theorem stepI_8 (x : StStep) (w : World) (hk : x.kd = 8) (h : StStep.ln w x) (ht : Tabs w) :
    Calls Tryd.prog 28 #[.agg #[.int .i64 x.kd, .int .i64 x.tx, .int .i64 x.rid, .int .i64 x.cnt, x.data.v, x.keep.v]] w fun e w' => e = .returned (.string (Tx (lnS x.dat))) ∧ Same w w' := by
  have hE : lnS x.dat = Lib.join ([99, 104, 101, 99, 107, 112, 111, 105, 110, 116] :: ([] : List (List UInt8)).map (wsD x.dat)) [32] ++ [10] := by unfold lnS wdS; simp only [StStep.dat, hk]; rfl
  have hl := wd_len x.dat h.dl h.kl h.ok.tx h.ok.rid h.ok.cnt
  rw [hE] at hl ⊢
  rw [List.length_append] at hl
  exact stepI_of x w 8 [99, 104, 101, 99, 107, 112, 111, 105, 110, 116] [] (wsD x.dat) hk (by decide) (by decide) (fun j b hb => (show ∀ b ∈ frmS 8, b.toNat < 128 from by decide) b (List.mem_of_getElem? hb)) (by decide) (by decide) ht (fun n hn => by simp at hn) (by omega)
theorem stepI_9 (x : StStep) (w : World) (hk : x.kd = 9) (h : StStep.ln w x) (ht : Tabs w) :
    Calls Tryd.prog 28 #[.agg #[.int .i64 x.kd, .int .i64 x.tx, .int .i64 x.rid, .int .i64 x.cnt, x.data.v, x.keep.v]] w fun e w' => e = .returned (.string (Tx (lnS x.dat))) ∧ Same w w' := by
  have hE : lnS x.dat = Lib.join ([114, 101, 115, 116, 97, 114, 116] :: ([] : List (List UInt8)).map (wsD x.dat)) [32] ++ [10] := by unfold lnS wdS; simp only [StStep.dat, hk]; rfl
  have hl := wd_len x.dat h.dl h.kl h.ok.tx h.ok.rid h.ok.cnt
  rw [hE] at hl ⊢
  rw [List.length_append] at hl
  exact stepI_of x w 9 [114, 101, 115, 116, 97, 114, 116] [] (wsD x.dat) hk (by decide) (by decide) (fun j b hb => (show ∀ b ∈ frmS 9, b.toNat < 128 from by decide) b (List.mem_of_getElem? hb)) (by decide) (by decide) ht (fun n hn => by simp at hn) (by omega)
theorem stepI_10 (x : StStep) (w : World) (hk : x.kd = 10) (h : StStep.ln w x) (ht : Tabs w) :
    Calls Tryd.prog 28 #[.agg #[.int .i64 x.kd, .int .i64 x.tx, .int .i64 x.rid, .int .i64 x.cnt, x.data.v, x.keep.v]] w fun e w' => e = .returned (.string (Tx (lnS x.dat))) ∧ Same w w' := by
  have hE : lnS x.dat = Lib.join ([99, 114, 97, 115, 104] :: [[107, 101, 101, 112]].map (wsD x.dat)) [32] ++ [10] := by unfold lnS wdS; simp only [StStep.dat, hk]; rfl
  have hl := wd_len x.dat h.dl h.kl h.ok.tx h.ok.rid h.ok.cnt
  rw [hE] at hl ⊢
  rw [List.length_append] at hl
  exact stepI_of x w 10 [99, 114, 97, 115, 104] [[107, 101, 101, 112]] (wsD x.dat) hk (by decide) (by decide) (fun j b hb => (show ∀ b ∈ frmS 10, b.toNat < 128 from by decide) b (List.mem_of_getElem? hb)) (by decide) (by decide) ht (fun n hn wx hk2 => by
    simp only [List.mem_cons, List.not_mem_nil, or_false] at hn
    rcases hn with rfl
    · exact fieldI_keep x wx (h.same hk2) (ht.same hk2)) (by omega)
theorem stepI_11 (x : StStep) (w : World) (hk : x.kd = 11) (h : StStep.ln w x) (ht : Tabs w) :
    Calls Tryd.prog 28 #[.agg #[.int .i64 x.kd, .int .i64 x.tx, .int .i64 x.rid, .int .i64 x.cnt, x.data.v, x.keep.v]] w fun e w' => e = .returned (.string (Tx (lnS x.dat))) ∧ Same w w' := by
  have hE : lnS x.dat = Lib.join ([99, 117, 116] :: [[99, 111, 117, 110, 116]].map (wsD x.dat)) [32] ++ [10] := by unfold lnS wdS; simp only [StStep.dat, hk]; rfl
  have hl := wd_len x.dat h.dl h.kl h.ok.tx h.ok.rid h.ok.cnt
  rw [hE] at hl ⊢
  rw [List.length_append] at hl
  exact stepI_of x w 11 [99, 117, 116] [[99, 111, 117, 110, 116]] (wsD x.dat) hk (by decide) (by decide) (fun j b hb => (show ∀ b ∈ frmS 11, b.toNat < 128 from by decide) b (List.mem_of_getElem? hb)) (by decide) (by decide) ht (fun n hn wx hk2 => by
    simp only [List.mem_cons, List.not_mem_nil, or_false] at hn
    rcases hn with rfl
    · exact fieldI_count x wx (h.same hk2) (ht.same hk2)) (by omega)
theorem stepI_any (x : StStep) (w : World) (hk : 1 ≤ x.kd ∧ x.kd ≤ 11) (h : StStep.ln w x) (ht : Tabs w) :
    Calls Tryd.prog 28 #[.agg #[.int .i64 x.kd, .int .i64 x.tx, .int .i64 x.rid, .int .i64 x.cnt, x.data.v, x.keep.v]] w fun e w' => e = .returned (.string (Tx (lnS x.dat))) ∧ Same w w' := by
  have h11 : x.kd = 1 ∨ x.kd = 2 ∨ x.kd = 3 ∨ x.kd = 4 ∨ x.kd = 5 ∨ x.kd = 6 ∨ x.kd = 7 ∨ x.kd = 8 ∨ x.kd = 9 ∨ x.kd = 10 ∨ x.kd = 11 := by omega
  rcases h11 with e | e | e | e | e | e | e | e | e | e | e
  · exact stepI_1 x w e h ht
  · exact stepI_2 x w e h ht
  · exact stepI_3 x w e h ht
  · exact stepI_4 x w e h ht
  · exact stepI_5 x w e h ht
  · exact stepI_6 x w e h ht
  · exact stepI_7 x w e h ht
  · exact stepI_8 x w e h ht
  · exact stepI_9 x w e h ht
  · exact stepI_10 x w e h ht
  · exact stepI_11 x w e h ht
def Bld (w : World) (b : Nat) (l : List UInt8) : Prop := Lib.IsBuilderF 70 5 b b (Lib.byteCells l) w
theorem Bld.new (w : World) : Bld (w.alloc (.cells #[.pointer none, .slice none 0 0] 70)) w.heap.size [] := Lib.IsBuilderF.of (Lib.fresh_isBuilder _ _ w)
theorem Bld.same {w w' : World} {b : Nat} {l : List UInt8} (h : Bld w b l) (hk : Same w w') : Bld w' b l := by
  have one : ∀ p, Lib.BuilderAtF 70 5 b b p (Lib.byteCells l) w → Lib.BuilderAtF 70 5 b b p (Lib.byteCells l) w' := fun p h => by
    have hlt := h.lt
    obtain ⟨hB, v, hv, hown, hne⟩ := h
    exact ⟨hB, v, hk.heap hv id, hown.kept (row := none) ⟨hk.os, hk.tape, hk.output, hk.size, fun k hk2 _ => hk.block k hk2 id⟩ (Classical.em _), hne⟩
  exact h.elim (fun x => .inl (one _ x)) (fun x => .inr (one _ x))
theorem Bld.lt {w : World} {b : Nat} {l : List UInt8} (h : Bld w b l) : b < w.heap.size := h.elim (fun x => x.lt) (fun x => x.lt)
theorem kept_from {w w' : World} {b : Nat} (h : Below b w w') : Kept (fun k => b ≤ k) w w' := ⟨h.os, h.tape, h.output, h.size, fun k _ hr => h.block k (by omega)⟩
theorem writeB_any (b : Nat) (l m : List UInt8) (w : World) (h : Bld w b l) (hl : l.length + m.length ≤ 1099511627776) :
    Calls Tryd.prog 26 #[.pointer (some ⟨b, 0, none⟩), .string (Tx m)] w fun e w' => e = .returned (.tuple #[.int .i64 (m.length : Int), .nilIface]) ∧ Bld w' b (l ++ m) ∧ Kept (fun k => b ≤ k) w w' := by
  have e := Any.Builder_WriteString_f Tryd.layWrite Tryd.extraJ b b (Lib.byteCells l) (Tx m) w h (by rw [tx_size]; simp [Lib.byteCells]; omega) (Nat.le_of_lt h.lt)
  refine e.mono ?_
  rintro e w' ⟨rfl, h2, h3⟩
  refine ⟨by rw [tx_size], .inr ?_, kept_from h3⟩
  have e2 : Lib.byteCells l ++ Lib.strCells (Tx m) = Lib.byteCells (l ++ m) := by simp [Lib.byteCells, Lib.strCells, Tx]
  rw [← e2]
  exact h2
theorem strB_any (b : Nat) (l : List UInt8) (w : World) (h : Bld w b l) :
    Calls Tryd.prog 29 #[.pointer (some ⟨b, 0, none⟩)] w fun e w' => e = .returned (.string (Tx l)) ∧ Kept (fun k => b ≤ k) w w' :=
  (Any.Builder_String_any_f Tryd.layStr Tryd.extraS b b l w h (Nat.le_of_lt h.lt)).mono (fun e w' ⟨he, _, h3⟩ => ⟨he, kept_from h3⟩)
theorem same_from {w w1 w2 : World} {b : Nat} (h : Same w w1) (h2 : Kept (fun k => b ≤ k) w1 w2) (hb : w.heap.size ≤ b) : Same w w2 := h.next h2 (fun i hi e => by omega)
theorem implScript_any (p f l : Int) (v : Value) (ps : List StStep) (w : World) (hg : IsG p f l) (hp : RdSp w v ps) (hok : ∀ x ∈ ps, x.ok) (hn : (ps.length : Int) + sizeSp ps ≤ 1048576) (ht : Tabs w) :
    Calls Tryd.prog 9 #[.agg #[.int .i64 p, .int .i64 f, .int .i64 l], v] w fun e w' => e = .returned (.string (Tx (scT p f l (datSp ps)))) ∧ Same w w' := by
  have hnn := sizeSp_nonneg ps
  have HSZ := (show Hid (∀ x ∈ ps, x.szs ≤ 1048576) from fun x hx => by have := sizeSp_mem ps x hx; omega)
  have km : ∀ wx, Same w wx → Calls Tryd.prog 23 #[v] wx fun e w' => e = .returned (.bool (decide (400 < (datSp ps).length) || decide (100000 < totS (datSp ps)))) ∧ Same wx w' := fun wx hk => tooMuch_any v ps wx (hp.same hk) hn
  have kc : ∀ wx, Same w wx → Calls Tryd.prog 24 #[v, .func (.func 25) #[] #[]] wx fun e w' => e = .returned (.bool ((datSp ps).any badS)) ∧ Same wx w' := fun wx hk => by
    have h := containsTS_any 25 (fun x => badS x.dat) v ps wx (hp.same hk) enters_nl (fun x wy hx hk2 => hasNoLine_any x wy (HSZ.out x hx) ((((hp.same hk).same hk2).data x hx)))
    have e : (datSp ps).any badS = ps.any (fun x => badS x.dat) := by unfold datSp; rw [List.any_map]; rfl
    rw [e]
    exact h
  obtain ⟨a, c, rfl⟩ := hp.form
  have HC := (show Hid (∀ k, (h : k < ps.length) → ∃ b off, a = some ⟨b, off, none⟩ ∧ ∀ i, i < 6 → w.cell? ⟨b, off + (k * 6 + i), none⟩ = (kSp.cells ps[k])[i]?) from fun k h => by
    rcases hp.row.row with ⟨e, a, c, e2⟩ | ⟨b, off, c, e2, hc⟩
    · rw [e] at h; simp at h
    · injection e2 with e2
      exact ⟨b, off, e2, fun i hi => hc k i h hi⟩)
  have HP := hid hp
  have HOK := (show Hid (∀ x ∈ ps, x.ok) from hok)
  have HT := hid ht
  have HGB := hid hg
  have b0 := Blk.newL w [.int .i64 p, .int .i64 f, .int .i64 l] 27
  have HK0 := hid (sameA w [.int .i64 p, .int .i64 f, .int .i64 l] 27)
  obtain ⟨g0, g1, g2⟩ := b0.all3
  have k0 := fun wx => implGeo_any p f l wx
  have HB0 := hid b0
  clear b0 hok hp hg ht
  by_cases hge : geoF p f l = 0
  case neg =>
    have HE := hid (noTxt_geo (ds := datSp ps) hge)
    have hge' : (geoF p f l != 0) = true := by simpa using hge
    obtain ⟨R, hR⟩ : ∃ R, geoF p f l = R := ⟨_, rfl⟩
    rw [hR] at hge' k0
    clear hge hR km kc
    go_enter Tryd.func9, Tryd.ntmps9
    go_wp2_with (first | (go_at_call 22; (with_reducible refine (k0 _).mono ?_); rintro e w1 ⟨rfl, hk1⟩; have HK1 := hid (HK0.out.trans hk1); clear hk1 k0))
    go_ret
    exact ⟨by rw [HE.out]; rfl, HK1.out⟩
  case pos =>
  have HG := hid hge
  rw [hge] at k0
  clear hge
  generalize hl : ps.length = len at hn HP km kc ⊢
  have HL := hid hl
  clear hl
  cases hM : (decide (400 < (datSp ps).length) || decide (100000 < totS (datSp ps))) with
  | true =>
    have HE := (show Hid (scT p f l (datSp ps) = []) from by
      rcases Bool.or_eq_true _ _ ▸ hM with h | h
      · exact noTxt_len (of_decide_eq_true h)
      · exact noTxt_tot (of_decide_eq_true h))
    rw [hM] at km
    clear hM kc
    go_enter Tryd.func9, Tryd.ntmps9
    go_wp2_with (first
      | (go_at_call 22; (with_reducible refine (k0 _).mono ?_); rintro e w1 ⟨rfl, hk1⟩; have HK1 := hid (HK0.out.trans hk1); clear hk1 k0)
      | (go_at_call 23; (with_reducible refine (km _ HK1.out).mono ?_); rintro e w2 ⟨rfl, hk2⟩; have HK2 := hid (HK1.out.trans hk2); clear hk2 km))
    go_ret
    exact ⟨by rw [HE.out]; rfl, HK2.out⟩
  | false =>
  rw [hM] at km
  cases hA : (datSp ps).any badS with
  | true =>
    have HE := (show Hid (scT p f l (datSp ps) = []) from by
      obtain ⟨d, hd, hb⟩ := List.any_eq_true.1 hA
      exact noTxt_bad hd hb)
    rw [hA] at kc
    clear hM hA
    go_enter Tryd.func9, Tryd.ntmps9
    go_wp2_with (first
      | (go_at_call 22; (with_reducible refine (k0 _).mono ?_); rintro e w1 ⟨rfl, hk1⟩; have HK1 := hid (HK0.out.trans hk1); clear hk1 k0)
      | (go_at_call 23; (with_reducible refine (km _ HK1.out).mono ?_); rintro e w2 ⟨rfl, hk2⟩; have HK2 := hid (HK1.out.trans hk2); clear hk2 km)
      | (go_at_call 24; (with_reducible refine (kc _ HK2.out).mono ?_); rintro e w3 ⟨rfl, hk3⟩; have HK3 := hid (HK2.out.trans hk3); clear hk3 kc))
    go_ret
    exact ⟨by rw [HE.out]; rfl, HK3.out⟩
  | false =>
  rw [hA] at kc
  rw [Bool.or_eq_false_iff] at hM
  have HE := hid (scT_some (p := p) (f := f) (l := l) (ds := datSp ps) HG.out (of_decide_eq_false hM.1) hA (of_decide_eq_false hM.2))
  have HA2 := hid hA
  have h4 : len ≤ 400 := by have h := of_decide_eq_false hM.1; rw [datSp_length, HL.out] at h; omega
  clear hM hA
  go_enter Tryd.func9, Tryd.ntmps9
  go_upto_region 3 with (first
    | (go_at_call 22; (with_reducible refine (k0 _).mono ?_); rintro e w1 ⟨rfl, hk1⟩; have HK1 := hid (HK0.out.trans hk1); have HB1 := hid (HB0.out.same hk1); clear hk1 k0 g0 g1 g2)
    | (go_at_call 23; (with_reducible refine (km _ HK1.out).mono ?_); rintro e w2 ⟨rfl, hk2⟩; have HK2 := hid (HK1.out.trans hk2); have HB2 := hid (HB1.out.same hk2); clear hk2 km)
    | (go_at_call 24; (with_reducible refine (kc _ HK2.out).mono ?_); rintro e w3 ⟨rfl, hk3⟩; have HK3 := hid (HK2.out.trans hk3); have HB3 := hid (HB2.out.same hk3); clear hk3 kc))
  have HBL := hid (Bld.new w3)
  have HK4 := hid (HK3.out.alloc (.cells #[.pointer none, .slice none 0 0] 70))
  have HB4 := hid (HB3.out.alloc (.cells #[.pointer none, .slice none 0 0] 70))
  have hgn := (show w.heap.size ≤ w3.heap.size from HK3.out.size)
  go_upto_region 4 with fail
  generalize w3.alloc (.cells #[.pointer none, .slice none 0 0] 70) = w4 at HBL HK4 HB4 ⊢
  generalize w3.heap.size = G at HBL hgn ⊢
  obtain ⟨g0, g1, g2⟩ := HB4.out.all3
  have kg : ∀ wx, Same w wx → Calls Tryd.prog 27 #[.agg #[.int .i64 p, .int .i64 f, .int .i64 l]] wx fun e w' => e = .returned (.string (Tx (gLn p f l))) ∧ Same wx w' := fun wx hk => geoI_any p f l wx HGB.out (HT.out.same hk)
  have HGL := (show Hid ((gLn p f l).length ≤ 100) from by
    have hGB := HGB.out
    have l0 := itoa_len p hGB.1.1 hGB.1.2
    have l1 := itoa_len f hGB.2.1.1 hGB.2.1.2
    have l2 := itoa_len l hGB.2.2.1 hGB.2.2.2
    unfold Hid gLn
    rw [join4]
    simp only [List.length_append, List.length_cons, List.length_nil]
    omega)
  generalize hgl : gLn p f l = GL at kg HGL
  have HGE := hid hgl
  clear hgl HB3 HB2 HB1 HB0
  go_upto_region 5 with (first
    | (go_at_call 27; (with_reducible refine (kg _ HK4.out).mono ?_); rintro e w5 ⟨rfl, hk5⟩; have HK5 := hid (HK4.out.trans hk5); have HL5 := hid (HBL.out.same hk5); clear hk5 kg g0 g1 g2)
    | (go_at_call 26; (with_reducible refine (writeB_any G [] GL _ HL5.out (by have := HGL.out; simp; omega)).mono ?_); rintro e w6 ⟨rfl, hb6, hk6⟩; have HK6 := hid (same_from HK5.out hk6 hgn); have HL6 := hid hb6; clear hb6 hk6))
  go_wp2
  go_loopw [7, 24] (fun y i wr => ∃ (k : Nat) (L : List UInt8), k ≤ len ∧ i = .int .i64 (k : Int) ∧ Hid (L = GL ++ (datSp (ps.take k)).flatMap lnS ∧ L.length ≤ 100 + k * 3000000 ∧ Bld wr G L ∧ Same w wr)) (fun _ i _ => len - (intOf i).toNat)
  case atStart => exact ⟨0, GL, Nat.zero_le _, rfl, by simp [datSp], by have := HGL.out; omega, HL6.out, HK6.out⟩
  case round =>
    obtain ⟨k, L, hk, rfl, HI⟩ := hrel
    by_cases hlt : k < len
    · have hlp : k < ps.length := by rw [HL.out]; exact hlt
      have hki : (k : Int) < (len : Int) := by omega
      obtain ⟨hLe, hLn, hBf, hKx⟩ := HI.out
      obtain ⟨b, off, rfl, hc⟩ := HC.out k hlp
      have hrd := (HP.out.data _ (List.getElem_mem hlp)).same hKx
      have hsz := HSZ.out _ (List.getElem_mem hlp)
      have hokP := HOK.out _ (List.getElem_mem hlp)
      have HDT := hid (datSp_take ps k hlp)
      have hnb : badS ps[k].dat = false := by
        cases hb : badS ps[k].dat with
        | false => rfl
        | true => have h := HA2.out; have h2 : (datSp ps).any badS = true := List.any_eq_true.2 ⟨ps[k].dat, List.mem_map.2 ⟨ps[k], List.getElem_mem hlp, rfl⟩, hb⟩; rw [h2] at h; exact h
      obtain ⟨P, hP⟩ : ∃ P, ps[k] = P := ⟨_, rfl⟩
      rw [hP] at hc hrd hsz HDT hokP hnb
      unfold badS at hnb
      rw [Bool.or_eq_false_iff] at hnb
      have hst : stepFd P.dat = 0 := by simpa using hnb.1
      have hln : StStep.ln wr P := by
        unfold StStep.szs at hsz
        have h2 := hrd.2.2.1
        refine ⟨hokP, hrd, by omega, by omega, fun d hd => ?_⟩
        have h3 := hnb.2
        rw [List.any_eq_false] at h3
        have h4 := h3 d hd
        unfold noDig at h4
        simp at h4
        omega
      have kl : ∀ wx, Same wr wx → Calls Tryd.prog 28 #[.agg #[.int .i64 P.kd, .int .i64 P.tx, .int .i64 P.rid, .int .i64 P.cnt, P.data.v, P.keep.v]] wx fun e w' => e = .returned (.string (Tx (lnS P.dat))) ∧ Same wx w' := fun wx hk2 => stepI_any P wx (stepFd_kind hst) (hln.same hk2) (HT.out.same (hKx.trans hk2))
      have hll : (lnS P.dat).length ≤ 3000000 := wd_len P.dat hln.dl hln.kl hokP.tx hokP.rid hokP.cnt
      have c0 : wr.cell? ⟨b, off + k * 6, none⟩ = some (.int .i64 P.kd) := hKx.cellOf (p := ⟨b, off + k * 6, none⟩) (hc 0 (by decide)) id
      have c1 : wr.cell? ⟨b, off + k * 6 + 1, none⟩ = some (.int .i64 P.tx) := hKx.cellOf (p := ⟨b, off + k * 6 + 1, none⟩) (by have h := hc 1 (by decide); rw [← Nat.add_assoc] at h; exact h) id
      have c2 : wr.cell? ⟨b, off + k * 6 + 2, none⟩ = some (.int .i64 P.rid) := hKx.cellOf (p := ⟨b, off + k * 6 + 2, none⟩) (by have h := hc 2 (by decide); rw [← Nat.add_assoc] at h; exact h) id
      have c3 : wr.cell? ⟨b, off + k * 6 + 3, none⟩ = some (.int .i64 P.cnt) := hKx.cellOf (p := ⟨b, off + k * 6 + 3, none⟩) (by have h := hc 3 (by decide); rw [← Nat.add_assoc] at h; exact h) id
      have c4 : wr.cell? ⟨b, off + k * 6 + 4, none⟩ = some P.data.v := hKx.cellOf (p := ⟨b, off + k * 6 + 4, none⟩) (by have h := hc 4 (by decide); rw [← Nat.add_assoc] at h; exact h) id
      have c5 : wr.cell? ⟨b, off + k * 6 + 5, none⟩ = some P.keep.v := hKx.cellOf (p := ⟨b, off + k * 6 + 5, none⟩) (by have h := hc 5 (by decide); rw [← Nat.add_assoc] at h; exact h) id
      have HFL := (show Hid (L ++ lnS P.dat = GL ++ (datSp (ps.take (k + 1))).flatMap lnS) from by unfold Hid; rw [HDT.out, List.flatMap_append, ← List.append_assoc, ← hLe]; simp)
      obtain ⟨M, hM⟩ : ∃ M, lnS P.dat = M := ⟨_, rfl⟩
      rw [hM] at kl hll HFL
      have HBf := hid hBf
      have HLn := (show Hid (L.length ≤ 100 + k * 3000000) from hLn)
      have HLL := (show Hid (M.length ≤ 3000000) from hll)
      have HKx := hid hKx
      clear hc hrd hsz hokP hnb hst hln hP hM hLe hLn hBf hKx hll
      obtain ⟨kd, tx, rid, cnt, ⟨d1, d2, d3, d4⟩, ⟨e1, e2, e3, e4, e5⟩⟩ := P
      dsimp only [BS.v, FR.v] at kl c0 c1 c2 c3 c4 c5
      have HS8 := hid (sameA wr [.int .i64 kd, .int .i64 tx, .int .i64 rid, .int .i64 cnt, .slice d2 d4.length d3, .slice e2 e3 e4] 61)
      go_upto_region 8 with fail
      go_wp2_with (first
        | (go_at_call 28; (with_reducible refine (kl _ HS8.out).mono ?_); rintro e w7 ⟨rfl, hk7⟩; have HS7 := hid (HS8.out.trans hk7); have HK7 := hid (HKx.out.trans HS7.out); have HL7 := hid (HBf.out.same HS7.out); clear hk7 kl c0 c1 c2 c3 c4 c5)
        | (go_at_call 26; (with_reducible refine (writeB_any G L M _ HL7.out (by have := HLn.out; have := HLL.out; omega)).mono ?_); rintro e w9 ⟨rfl, hb9, hk9⟩; have HK9 := hid (same_from HK7.out hk9 hgn); have HL9 := hid hb9; clear hb9 hk9))
      go_roundw
      case rel => exact ⟨k + 1, L ++ M, by omega, by go_num, HFL.out, by have := HLn.out; have := HLL.out; simp; omega, HL9.out, HK9.out⟩
      case measure => simp [intOf]; omega
    · have hge2 : ¬ (k : Int) < (len : Int) := by omega
      obtain ⟨hLe, hLn, hBf, hKx⟩ := HI.out
      have hkl : k = ps.length := by have := HL.out; omega
      have HFIN := (show Hid (L = scT p f l (datSp ps)) from by unfold Hid; rw [HE.out, HGE.out, hLe, hkl, List.take_length])
      have HKx := hid hKx
      have ks := strB_any G L wr hBf
      clear hLe hLn hBf hKx hkl
      go_wp2_with (first | (go_at_call 29; (with_reducible refine ks.mono ?_); rintro e w9 ⟨rfl, hk9⟩; have HK9 := hid (same_from HKx.out hk9 hgn); clear hk9))
      go_ret
      exact ⟨by rw [HFIN.out]; rfl, HK9.out⟩
theorem eqStepS_own (va vb : Value) (ps qs : List StStep) (w : World) (hn : ps.length ≤ 1125899906842624) (hs : datSp ps = datSp qs) (hsm : ∀ p ∈ ps, p.size ≤ 1125899906842624)
    (ha : OwnSp w va ps) (hb : OwnSp w vb qs) :
    Calls Tryd.prog 10 #[va, vb] w fun e w' => e = .returned (.bool true) ∧ Same w w' := by
  have hlen : qs.length = ps.length := by rw [← datSp_length, ← datSp_length, hs]
  by_cases hz : ps.length = 0
  · obtain rfl : ps = [] := List.length_eq_zero_iff.1 hz
    obtain rfl : qs = [] := List.length_eq_zero_iff.1 hlen
    obtain ⟨aa, ca, rfl⟩ : ∃ aa ca, va = .slice aa 0 ca := by rcases ha.own.form with ⟨rfl, _⟩ | ⟨g, cap, rfl, _⟩ <;> exact ⟨_, _, rfl⟩
    obtain ⟨ab, cb, rfl⟩ : ∃ aa ca, vb = .slice aa 0 ca := by rcases hb.own.form with ⟨rfl, _⟩ | ⟨g, cap, rfl, _⟩ <;> exact ⟨_, _, rfl⟩
    clear ha hb hn hz hs
    go_enter Tryd.func10, Tryd.ntmps10
    go_wp2
    refine wp_loop_rounds 1 ?_
    rw [rounds_succ]
    go_wp2
    go_ret
    exact ⟨rfl, Kept.refl _ _⟩
  · obtain ⟨ga, ca, rfl⟩ : ∃ g cap, va = .slice (some ⟨g, 0, none⟩) ps.length cap := by
      rcases ha.own.form with ⟨_, h⟩ | ⟨g, cap, h, _⟩
      · simp [h] at hz
      · exact ⟨g, cap, h⟩
    obtain ⟨gb, cb, rfl⟩ : ∃ g cap, vb = .slice (some ⟨g, 0, none⟩) ps.length cap := by
      rcases hb.own.form with ⟨_, h⟩ | ⟨g, cap, h, _⟩
      · simp [h] at hlen; omega
      · exact ⟨g, cap, by rw [h, hlen]⟩
    have HA := hid ha
    have HB := hid hb
    have HQ : Hid (qs.length = ps.length) := hlen
    have HS : Hid (datSp ps = datSp qs) := hs
    have HM : Hid (∀ p ∈ ps, p.size ≤ 1125899906842624) := hsm
    clear ha hb hs hlen hsm
    generalize hl : ps.length = len at hn hz HA HB ⊢
    have HL : Hid (ps.length = len) := hl
    clear hl
    go_enter Tryd.func10, Tryd.ntmps10
    go_wp2
    go_loopw [5] (fun i wr => ∃ (k : Nat), k ≤ len ∧ i = .int .i64 k ∧ Hid (Same w wr)) (fun i _ => len - (intOf i).toNat)
    case atStart => exact ⟨0, Nat.zero_le _, rfl, Kept.refl _ _⟩
    case round =>
      obtain ⟨k, hk, rfl, HK⟩ := hrel
      by_cases hlt : k < len
      · have hlp : k < ps.length := by rw [HL.out]; exact hlt
        have hlq : k < qs.length := by rw [HQ.out]; exact hlp
        have hoa := (HA.out.same HK.out).own
        have hob := (HB.out.same HK.out).own
        have hdd := datSp_at HS.out k hlp hlq
        have s3 := HM.out _ (List.getElem_mem hlp)
        have hra := (HA.out.same HK.out).rows.memSp _ (List.getElem_mem hlp)
        have hrb := (HB.out.same HK.out).rows.memSp _ (List.getElem_mem hlq)
        obtain ⟨P, hP⟩ : ∃ P, ps[k] = P := ⟨_, rfl⟩
        obtain ⟨Q, hQ⟩ : ∃ Q, qs[k] = Q := ⟨_, rfl⟩
        rw [hP] at hdd s3 hra
        rw [hQ] at hdd hrb
        have ha0 : wr.cell? ⟨ga, k * 6, none⟩ = some (.int .i64 P.kd) := by have h := hoa.cell HL.out.symm k 0 hlp (by decide); rw [hP] at h; exact h
        have ha1 : wr.cell? ⟨ga, k * 6 + 1, none⟩ = some (.int .i64 P.tx) := by have h := hoa.cell HL.out.symm k 1 hlp (by decide); rw [hP] at h; exact h
        have ha2 : wr.cell? ⟨ga, k * 6 + 2, none⟩ = some (.int .i64 P.rid) := by have h := hoa.cell HL.out.symm k 2 hlp (by decide); rw [hP] at h; exact h
        have ha3 : wr.cell? ⟨ga, k * 6 + 3, none⟩ = some (.int .i64 P.cnt) := by have h := hoa.cell HL.out.symm k 3 hlp (by decide); rw [hP] at h; exact h
        have ha4 : wr.cell? ⟨ga, k * 6 + 4, none⟩ = some (P.data.v) := by have h := hoa.cell HL.out.symm k 4 hlp (by decide); rw [hP] at h; exact h
        have ha5 : wr.cell? ⟨ga, k * 6 + 5, none⟩ = some (P.keep.v) := by have h := hoa.cell HL.out.symm k 5 hlp (by decide); rw [hP] at h; exact h
        have hb0 : wr.cell? ⟨gb, k * 6, none⟩ = some (.int .i64 Q.kd) := by have h := hob.cell (by rw [HQ.out, HL.out]) k 0 hlq (by decide); rw [hQ] at h; exact h
        have hb1 : wr.cell? ⟨gb, k * 6 + 1, none⟩ = some (.int .i64 Q.tx) := by have h := hob.cell (by rw [HQ.out, HL.out]) k 1 hlq (by decide); rw [hQ] at h; exact h
        have hb2 : wr.cell? ⟨gb, k * 6 + 2, none⟩ = some (.int .i64 Q.rid) := by have h := hob.cell (by rw [HQ.out, HL.out]) k 2 hlq (by decide); rw [hQ] at h; exact h
        have hb3 : wr.cell? ⟨gb, k * 6 + 3, none⟩ = some (.int .i64 Q.cnt) := by have h := hob.cell (by rw [HQ.out, HL.out]) k 3 hlq (by decide); rw [hQ] at h; exact h
        have hb4 : wr.cell? ⟨gb, k * 6 + 4, none⟩ = some (Q.data.v) := by have h := hob.cell (by rw [HQ.out, HL.out]) k 4 hlq (by decide); rw [hQ] at h; exact h
        have hb5 : wr.cell? ⟨gb, k * 6 + 5, none⟩ = some (Q.keep.v) := by have h := hob.cell (by rw [HQ.out, HL.out]) k 5 hlq (by decide); rw [hQ] at h; exact h
        have HD := hid hdd
        have HS3 := hid s3
        have HDA := hid hra
        have HDB := hid hrb
        clear hoa hob hdd hra hrb s3 hP hQ
        go_wp2_with fail
        let Y1 : World → Prop := fun wx : World => (wx.cell? ⟨ga, k * 6, none⟩ = some (.int .i64 P.kd) ∧ wx.cell? ⟨ga, k * 6 + 1, none⟩ = some (.int .i64 P.tx) ∧ wx.cell? ⟨ga, k * 6 + 2, none⟩ = some (.int .i64 P.rid) ∧ wx.cell? ⟨ga, k * 6 + 3, none⟩ = some (.int .i64 P.cnt) ∧ wx.cell? ⟨ga, k * 6 + 4, none⟩ = some (P.data.v) ∧ wx.cell? ⟨ga, k * 6 + 5, none⟩ = some (P.keep.v)) ∧ (wx.cell? ⟨gb, k * 6, none⟩ = some (.int .i64 Q.kd) ∧ wx.cell? ⟨gb, k * 6 + 1, none⟩ = some (.int .i64 Q.tx) ∧ wx.cell? ⟨gb, k * 6 + 2, none⟩ = some (.int .i64 Q.rid) ∧ wx.cell? ⟨gb, k * 6 + 3, none⟩ = some (.int .i64 Q.cnt) ∧ wx.cell? ⟨gb, k * 6 + 4, none⟩ = some (Q.data.v) ∧ wx.cell? ⟨gb, k * 6 + 5, none⟩ = some (Q.keep.v))
        have hS : Y1 wr.drew := ⟨⟨ha0, ha1, ha2, ha3, ha4, ha5⟩, ⟨hb0, hb1, hb2, hb3, hb4, hb5⟩⟩
        refine wp_region_V Y1 99 10 rfl (by kernel_rfl) ?_
        refine tk 0 17 hS ?_
        refine tk 1 18 hS ?_
        refine tkV 2 19 (.pointer (some ⟨ga, k * 6, none⟩)) hS ?_
        refine tk 3 20 hS ?_
        refine tk 4 21 hS ?_
        refine tk 5 22 hS ?_
        refine tkV 6 23 (.pointer (some ⟨gb, k * 6, none⟩)) hS ?_
        refine tk 7 24 hS ?_
        refine wpAnyV_one (i := 8) (by kernel_rfl) rfl (fun K hK => ?_)
        go_simp
        refine (eqStep_own P Q _ HS3.out HD.out (HDA.out.same (Kept.refl _ _).drew) (HDB.out.same (Kept.refl _ _).drew)).mono ?_
        rintro e w1 ⟨rfl, hk1⟩
        have HK1 : Hid (Same w w1) := HK.out.drew.trans hk1
        have HK7 : Hid (Same wr w1) := (Kept.refl _ _).drew.trans hk1
        refine hK.out _ _ (fun _ => ⟨⟨(HK7.out.cellOf ha0 id), (HK7.out.cellOf ha1 id), (HK7.out.cellOf ha2 id), (HK7.out.cellOf ha3 id), (HK7.out.cellOf ha4 id), (HK7.out.cellOf ha5 id)⟩, ⟨(HK7.out.cellOf hb0 id), (HK7.out.cellOf hb1 id), (HK7.out.cellOf hb2 id), (HK7.out.cellOf hb3 id), (HK7.out.cellOf hb4 id), (HK7.out.cellOf hb5 id)⟩⟩) ?_
        clear hK K
        try simp only [Act.put, sA, s0, sS]
        refine wpAnyV_one (i := 9) (by kernel_rfl) rfl (fun K hK => ?_)
        go_simp
        refine hK.out _ _ (fun h => ⟨⟨(HK7.out.cellOf ha0 id), (HK7.out.cellOf ha1 id), (HK7.out.cellOf ha2 id), (HK7.out.cellOf ha3 id), (HK7.out.cellOf ha4 id), (HK7.out.cellOf ha5 id)⟩, ⟨(HK7.out.cellOf hb0 id), (HK7.out.cellOf hb1 id), (HK7.out.cellOf hb2 id), (HK7.out.cellOf hb3 id), (HK7.out.cellOf hb4 id), (HK7.out.cellOf hb5 id)⟩⟩) ?_
        clear hK K hk1
        try simp only [Act.put, sA, s0, sS]
        refine wpAnyV_done (by kernel_rfl) ?_
        go_wp2
        go_roundw
        case rel => exact ⟨k + 1, by omega, by go_num, HK1⟩
        case measure => simp [intOf]; omega
      · go_wp2
        go_ret
        exact ⟨rfl, HK.out⟩
theorem szStepS_any (v : Value) (ps : List StStep) (left : Int) (w : World) (h0 : 0 ≤ left) (h1 : left ≤ 1048576) (hp : RdSp w v ps) :
    Calls Tryd.prog 5 #[v, .int .i64 left] w fun e w' => ∃ r : Int, e = .returned (.int .i64 r) ∧ (r = -1 ∨ (r = left - ps.length - sizeSp ps ∧ 0 ≤ r)) ∧ Same w w' := by
  have hn := hp.row.max
  unfold maxLen at hn
  rcases hp.row.row with ⟨rfl, a, c, rfl⟩ | ⟨b, off, c, rfl, hc⟩
  · clear hp hn
    go_enter Tryd.func5, Tryd.ntmps5
    go_wp2
    refine wp_loop_rounds 1 ?_
    rw [rounds_succ]
    go_wp2
    go_ret
    exact ⟨_, rfl, .inr ⟨by simp [sizeSp], by omega⟩, Kept.refl _ _⟩
  · have HP := hid hp
    have HC : Hid (∀ j i, (h : j < ps.length) → i < 6 → w.cell? ⟨b, off + (j * 6 + i), none⟩ = (kSp.cells ps[j])[i]?) := hc
    clear hp hc
    generalize hl : ps.length = len at hn HP ⊢
    have HL : Hid (ps.length = len) := hl
    clear hl
    by_cases h : left < len
    · go_enter Tryd.func5, Tryd.ntmps5
      go_wp2
      go_ret
      exact ⟨_, rfl, .inl rfl, Kept.refl _ _⟩
    · go_enter Tryd.func5, Tryd.ntmps5
      go_wp2
      go_loopw [1, 5] (fun u i wr => ∃ (k : Nat) (r : Int), k ≤ len ∧ i = .int .i64 k ∧ u = .int .i64 r ∧ 0 ≤ r ∧ r ≤ left ∧ Hid (r = left - len - sizeSp (ps.take k)) ∧ Hid (Same w wr)) (fun _ i _ => len - (intOf i).toNat)
      case atStart => exact ⟨0, left - len, Nat.zero_le _, rfl, rfl, by omega, by omega, by simp [sizeSp, Hid], Kept.refl _ _⟩
      case round =>
        obtain ⟨k, r, hk, rfl, rfl, hr0, hr1, HR, HK⟩ := hrel
        by_cases hlt : k < len
        · have hlp : k < ps.length := by rw [HL.out]; exact hlt
          have HST := hid (sizeSp_step ps k hlp)
          have hrd := (HP.out.data _ (List.getElem_mem hlp)).same HK.out
          obtain ⟨P, hP⟩ : ∃ P, ps[k] = P := ⟨_, rfl⟩
          rw [hP] at HST hrd
          have q0 : wr.cell? ⟨b, off + k * 6, none⟩ = some (.int .i64 P.kd) := HK.out.cellOf (p := ⟨b, off + k * 6, none⟩) (by have h := HC.out k 0 hlp (by decide); rw [hP] at h; exact h) id
          have q1 : wr.cell? ⟨b, off + k * 6 + 1, none⟩ = some (.int .i64 P.tx) := HK.out.cellOf (p := ⟨b, off + k * 6 + 1, none⟩) (by have h := HC.out k 1 hlp (by decide); rw [hP, ← Nat.add_assoc] at h; exact h) id
          have q2 : wr.cell? ⟨b, off + k * 6 + 2, none⟩ = some (.int .i64 P.rid) := HK.out.cellOf (p := ⟨b, off + k * 6 + 2, none⟩) (by have h := HC.out k 2 hlp (by decide); rw [hP, ← Nat.add_assoc] at h; exact h) id
          have q3 : wr.cell? ⟨b, off + k * 6 + 3, none⟩ = some (.int .i64 P.cnt) := HK.out.cellOf (p := ⟨b, off + k * 6 + 3, none⟩) (by have h := HC.out k 3 hlp (by decide); rw [hP, ← Nat.add_assoc] at h; exact h) id
          have q4 : wr.cell? ⟨b, off + k * 6 + 4, none⟩ = some (P.data.v) := HK.out.cellOf (p := ⟨b, off + k * 6 + 4, none⟩) (by have h := HC.out k 4 hlp (by decide); rw [hP, ← Nat.add_assoc] at h; exact h) id
          have q5 : wr.cell? ⟨b, off + k * 6 + 5, none⟩ = some (P.keep.v) := HK.out.cellOf (p := ⟨b, off + k * 6 + 5, none⟩) (by have h := HC.out k 5 hlp (by decide); rw [hP, ← Nat.add_assoc] at h; exact h) id
          have HRD := hid hrd
          clear hrd hP
          go_wp2_with fail
          refine (szStep_any P r _ hr0 (by omega) HRD.out).mono ?_
          rintro e w1 ⟨r1, rfl, hr2, hk1⟩
          have HK1 : Hid (Same w w1) := HK.out.trans hk1
          clear q0 q1 q2 q3 q4 q5 hk1
          rcases hr2 with rfl | ⟨hr2, hr3⟩
          · go_wp2
            go_ret
            exact ⟨_, rfl, .inl rfl, HK1.out⟩
          · have hr4 : r1 ≤ left := by have := P.szs_le; omega
            have HR1 : Hid (r1 = r - P.szs) := hr2
            clear hr2
            go_wp2
            go_roundw
            case rel => exact ⟨k + 1, r1, by omega, by go_num, rfl, hr3, hr4, by have h1 := HR1.out; have h2 := HR.out; have h3 := HST.out; unfold Hid; omega, HK1⟩
            case measure => simp [intOf]; omega
        · go_wp2
          go_ret
          obtain rfl : k = len := by omega
          have h1 := HR.out
          have h2 := HL.out
          rw [← h2, List.take_length] at h1
          exact ⟨r, rfl, .inr ⟨by omega, hr0⟩, HK.out⟩
theorem Tryd.infoSp : (Tryd.prog.info? 61).map (fun i => (i.zero, i.size, i.bytes)) = some (some (.agg #[.int .i64 0, .int .i64 0, .int .i64 0, .int .i64 0, .slice none 0 0, .slice none 0 0]), 6, 80) := by kernel_rfl
theorem toStepS_any (v : Value) (ps : List StStep) (w : World) (hn : ps.length ≤ 1048576) (hs : ∀ p ∈ ps, p.szs ≤ 1073741824) (hv : RdSp w v ps) :
    Calls Tryd.prog 8 #[v] w fun e w' => ∃ g qs, e = .returned (.slice (some ⟨g, 0, none⟩) ps.length ps.length) ∧ datSp qs = datSp ps ∧ szsSp qs = szsSp ps ∧ (∀ b, footSp (.slice (some ⟨g, 0, none⟩) ps.length ps.length) qs b → w.heap.size ≤ b) ∧
      OwnSp w' (.slice (some ⟨g, 0, none⟩) ps.length ps.length) qs ∧ Same w w' := by
  obtain ⟨i0, hi, hz0, hz1, hz2⟩ := info_parts Tryd.infoSp
  rcases hv.row.row with ⟨rfl, a, c, rfl⟩ | ⟨b, off, c, rfl, hc⟩
  · clear hv hn hs
    go_enter Tryd.func8, Tryd.ntmps8
    go_wp2_with (at_make; refine wpList_make_full _ rfl (.tmp 6) (.tmp 6) 29 rfl 0 61 i0 (.agg #[.int .i64 0, .int .i64 0, .int .i64 0, .int .i64 0, .slice none 0 0, .slice none 0 0]) 6 Tryd.underlying29 hi hz0 hz1 .i64 .i64 _ _ 0 rfl rfl (by simp) (by simp) (by simp) (by simp) (Nat.zero_le _) ?_; intro w1 hown1 hgrow1; have HO : Hid (OwnR kSp 0 61 5 w1 (.slice (some ⟨w.heap.size, 0, none⟩) 0 0) []) := ownR_made (K := kSp) (zp := zSp) (z := .agg #[.int .i64 0, .int .i64 0, .int .i64 0, .int .i64 0, .slice none 0 0, .slice none 0 0]) (by decide) rfl rfl rfl (n := 0) (by first | exact hown1 | simpa [kSp] using hown1); have HK : Hid (Same w w1) := Kept.of_grown hgrow1 (fun k e => by cases e); clear hown1 hgrow1)
    refine wp_loop_rounds 1 ?_
    rw [rounds_succ]
    go_wp2
    go_ret
    refine ⟨w.heap.size, [], rfl, rfl, rfl, fun b hb => ?_, ⟨HO.out, OwnL.nil _, fun b _ h => FootL_nil b h⟩, HK.out⟩
    rcases hb with hb | hb
    · simp [Value.ownBlock] at hb; omega
    · exact absurd hb (FootL_nil b)
  · have HP := hid hv
    have HC : Hid (∀ j i, (h : j < ps.length) → i < 6 → w.cell? ⟨b, off + (j * 6 + i), none⟩ = (kSp.cells ps[j])[i]?) := hc
    have HS : Hid (∀ p ∈ ps, p.szs ≤ 1073741824) := hs
    clear hc hv hs
    generalize hl : ps.length = len at hn HP ⊢
    have HL : Hid (ps.length = len) := hl
    clear hl
    go_enter Tryd.func8, Tryd.ntmps8
    go_wp2_with (at_make; refine wpList_make_full _ rfl (.tmp 6) (.tmp 6) 29 rfl 0 61 i0 (.agg #[.int .i64 0, .int .i64 0, .int .i64 0, .int .i64 0, .slice none 0 0, .slice none 0 0]) 6 Tryd.underlying29 hi hz0 hz1 .i64 .i64 _ _ len rfl rfl (by simp) (by simp) (by rw [hz2]; omega) (by unfold maxLen; omega) (Nat.zero_le _) ?_; intro w1 hown1 hgrow1; have HO : Hid (OwnR kSp 0 61 5 w1 (.slice (some ⟨w.heap.size, 0, none⟩) len len) (List.replicate len zSp)) := ownR_made (K := kSp) (zp := zSp) (z := .agg #[.int .i64 0, .int .i64 0, .int .i64 0, .int .i64 0, .slice none 0 0, .slice none 0 0]) (by decide) rfl rfl rfl (by first | exact hown1 | simpa [kSp] using hown1); have HK : Hid (Same w w1) := Kept.of_grown hgrow1 (fun k e => by cases e); clear hown1 hgrow1)
    go_loopw [4] (fun i wr => ∃ (k : Nat) (qs : List StStep), k ≤ len ∧ i = .int .i64 k ∧ qs.length = k ∧ Hid (datSp qs = datSp (ps.take k) ∧ szsSp qs = szsSp (ps.take k)) ∧ Hid (∀ b, FootL (spRows qs) b → w.heap.size < b) ∧ Hid (OwnR kSp 0 61 5 wr (.slice (some ⟨w.heap.size, 0, none⟩) len len) (qs ++ List.replicate (len - k) zSp)) ∧ Hid (OwnL wr (spRows qs)) ∧ Hid (Same w wr)) (fun i _ => len - (intOf i).toNat)
    case atStart => exact ⟨0, [], Nat.zero_le _, rfl, rfl, ⟨rfl, rfl⟩, fun b h => absurd h (FootL_nil b), by simpa using HO, OwnL.nil _, HK⟩
    case round =>
      obtain ⟨k, qs, hk, rfl, hql, HQ, HF, HOr, HRr, HKr⟩ := hrel
      have HQL : Hid (qs.length = k) := hql
      clear hql
      by_cases hlt : k < len
      · have hlp : k < ps.length := by rw [HL.out]; exact hlt
        have HREP : Hid (List.replicate (len - k) zSp = zSp :: List.replicate (len - (k + 1)) zSp) := by unfold Hid; rw [show len - k = len - (k + 1) + 1 from by omega, List.replicate_succ]
        have hd := (HP.out.data _ (List.getElem_mem hlp)).same HKr.out
        have hm1 := HS.out _ (List.getElem_mem hlp)
        have HTK := hid (List.take_succ_eq_append_getElem hlp)
        obtain ⟨P, hP⟩ : ∃ P, ps[k] = P := ⟨_, rfl⟩
        rw [hP] at hd hm1 HTK
        obtain ⟨cs, hcs⟩ : ∃ cs, kSp.cells P = cs := ⟨_, rfl⟩
        have hcl : cs.length = 6 := by rw [← hcs]; exact kSp.len P
        have HRG : Hid (wr.rangeAt b (off + k * 6) cs) := fun j v hv => by
          have hj : j < 6 := by have := (List.getElem?_eq_some_iff.1 hv).1; omega
          have h := HC.out k j hlp hj
          rw [hP, hcs, hv, ← Nat.add_assoc] at h
          exact HKr.out.cellOf h id
        have HI : Hid ((Tryd.prog.info? 58).map (·.size) = some cs.length) := by unfold Hid; rw [hcl]; kernel_rfl
        have HTO : Hid (Calls Tryd.prog 21 #[.agg cs.toArray] wr fun e w' => ∃ y : StStep, e = .returned y.val ∧ y.dat = P.dat ∧ y.szs = P.szs ∧ (∀ b, FootL y.rows b → wr.heap.size ≤ b) ∧ OwnL w' y.rows ∧ Same wr w') := by rw [← hcs]; exact toStep_any P wr hm1 hd
        have HLN : Hid (len = (qs ++ zSp :: List.replicate (len - (k + 1)) zSp).length) := by unfold Hid; simp [HQL.out]; omega
        have hz0w := (HOr.out.lt w.heap.size (.inl rfl)).2
        clear hd hm1 hP hcs hcl
        go_wp2_with (first | (refine wpList_load_mid rfl 58 _ rfl b (off + k * 6) rfl cs _ HRG.out Tryd.underlying58 rfl HI.out ?_))
        refine HTO.out.mono ?_
        rintro e w2 ⟨y, rfl, hyd, hyz, hyf, hyo, hk2⟩
        have HO2 : Hid (OwnR kSp 0 61 5 w2 (.slice (some ⟨w.heap.size, 0, none⟩) len len) (qs ++ zSp :: List.replicate (len - (k + 1)) zSp)) := by have h := HOr.out.same hk2; rw [HREP.out] at h; exact h
        have HK2 : Hid (Same w w2) := HKr.out.trans hk2
        have HYF := (show Hid (∀ b, FootL y.rows b → w.heap.size < b) from fun b hb => by have := hyf b hb; omega)
        have HFIN : Hid (OwnR kSp 0 61 5 (w2.setCells w.heap.size (k * 6) (kSp.cells y)) (.slice (some ⟨w.heap.size, 0, none⟩) len len) (qs ++ y :: List.replicate (len - (k + 1)) zSp)) := HO2.out.setElem (p' := y) HLN.out (k * 6) (by rw [HQL.out]; rfl) (Own.nil _ _ _ _) (fun b hb => by simp [kSp, Value.ownBlock] at hb)
        have HROW : Hid (OwnL (w2.setCells w.heap.size (k * 6) (kSp.cells y)) (spRows (qs ++ [y]))) := by
          unfold Hid
          rw [spRows_append, spRows_cons, show spRows [] = [] from rfl, List.append_nil]
          refine OwnL.kept (R := fun b => b = w.heap.size) ((HRr.out.same hk2).append hyo (fun b h1 h2 => by have h3 := HRr.out.lt b h1; have h4 := hyf b h2; omega)) (Kept.setCells (R := fun b => b = w.heap.size) (.inr rfl) _ _ (Kept.refl _ _)) (fun b hb e => ?_)
          rcases (FootL_append _ _ _).1 hb with h | h
          · have := HF.out b h; omega
          · have := HYF.out b h; omega
        have HKF : Hid (Same w (w2.setCells w.heap.size (k * 6) (kSp.cells y))) := Kept.setCells (.inl (Nat.le_refl _)) _ _ HK2.out
        have HYD := hid hyd
        have HYZ := hid hyz
        obtain ⟨ds, hds⟩ : ∃ ds, kSp.cells y = ds := ⟨_, rfl⟩
        have hdl : ds.length = 6 := by rw [← hds]; exact kSp.len y
        have hyv : y.val = .agg ds.toArray := by rw [← hds]; rfl
        have HONE : Hid (ds.toArray.all (·.oneCell') = true) := all_oneCell_toArray (fun v hv => by
          rw [← hds] at hv
          simp only [kSp, StStep.cells, List.mem_cons, List.not_mem_nil, or_false] at hv
          rcases hv with rfl | rfl | rfl | rfl | rfl | rfl <;> rfl)
        have HI2 : Hid ((Tryd.prog.info? 61).map (·.size) = some ds.toArray.size) := by unfold Hid; rw [List.size_toArray, hdl]; kernel_rfl
        have HTH : Hid (w2.there w.heap.size (k * 6) ds.toArray.size) := fun j hj => by
          rw [List.size_toArray, hdl] at hj
          refine ⟨?_, HO2.out.frozen HLN.out _⟩
          rw [HO2.out.cellMid HLN.out j hj _ (by rw [HQL.out]; rfl), List.getElem?_eq_getElem (by rw [kSp.len]; exact hj)]
          rfl
        rw [hyv]
        rw [hds] at HFIN HROW HKF
        clear hyd hyz hyf hyo hk2 HO2 HK2 HOr HRr HKr HTO HRG HI hds hdl hyv
        go_wp2_with (first | (refine wpList_store_mid rfl 61 _ _ rfl w.heap.size (k * 6) ds.toArray rfl rfl HTH.out HI2.out HONE.out ?_; rw [List.toList_toArray]))
        go_roundw
        case rel =>
          refine ⟨k + 1, qs ++ [y], by omega, by go_num, by simp [HQL.out], ?_, ?_, ?_, HROW, HKF⟩
          · obtain ⟨h1, h2⟩ := HQ.out
            have h3 := HTK.out
            have h4 := HYD.out
            have h5 := HYZ.out
            unfold Hid
            rw [h3]
            simp only [datSp, szsSp, List.map_append, List.map_cons, List.map_nil] at h1 h2 ⊢
            rw [h1, h2, h4, h5]
            exact ⟨rfl, rfl⟩
          · unfold Hid
            intro b hb
            rw [spRows_append, spRows_cons, show spRows [] = [] from rfl, List.append_nil] at hb
            rcases (FootL_append _ _ _).1 hb with h | h
            · exact HF.out b h
            · exact HYF.out b h
          · rw [List.append_assoc]
            exact HFIN
        case measure => simp [intOf]; omega
      · go_wp2
        go_ret
        obtain rfl : k = len := by omega
        have h := HOr.out
        have h2 := HL.out
        obtain ⟨h3, h4⟩ := HQ.out
        rw [Nat.sub_self, List.replicate_zero, List.append_nil] at h
        rw [← h2, List.take_length] at h3 h4
        refine ⟨w.heap.size, qs, rfl, h3, h4, fun b hb => ?_, ⟨h, HRr.out, fun b hb hf => ?_⟩, HKr.out⟩
        · rcases hb with hb | hb
          · simp [Value.ownBlock] at hb; omega
          · have := HF.out b hb; omega
        · have h5 := HF.out b hf
          simp [Value.ownBlock] at hb
          omega
theorem toGeo_any (p f l : Int) (w : World) : Calls Tryd.prog 7 #[.agg #[.int .i64 p, .int .i64 f, .int .i64 l]] w fun e w' => e = .returned (.agg #[.int .i64 p, .int .i64 f, .int .i64 l]) ∧ Same w w' := by
  go_enter Tryd.func7, Tryd.ntmps7
  go_wp2
  refine bodyPost_ret (v := .agg #[.int .i64 p, .int .i64 f, .int .i64 l]) (by simp [results, Tryd.results7, go_sem]) rfl ⟨rfl, ?_⟩
  repeat (first | exact Kept.refl _ _ | refine Kept.alloc ?_ _ | refine Kept.setCell ?_ (.inl (by simp)) _)
theorem ok_of {qs ps : List StStep} (h : datSp qs = datSp ps) (hok : ∀ x ∈ ps, x.ok) : ∀ x ∈ qs, x.ok := fun x hx => by
  have h2 : x.dat ∈ datSp ps := by rw [← h]; exact List.mem_map.2 ⟨x, hx, rfl⟩
  obtain ⟨y, hy, e⟩ := List.mem_map.1 h2
  exact StStep.ok_dat e.symm (hok y hy)
theorem formatScript_law (p f l : Int) (v : Value) (ps : List StStep) (w : World) (hg : IsG p f l) (hv : RdSp w v ps) (hok : ∀ x ∈ ps, x.ok) (ht : Tabs w) :
    Calls Tryd.prog 3 #[.agg #[.int .i64 p, .int .i64 f, .int .i64 l], v] w fun e w' => e = .returned (.bool true) ∧ Same w w' := by
  have kz := fun wx hk => szStepS_any v ps 1048576 wx (by omega) (by omega) (hv.same hk)
  obtain ⟨a, c, rfl⟩ := hv.form
  have HV := hid hv
  have HOK := (show Hid (∀ x ∈ ps, x.ok) from hok)
  have HG := hid hg
  have HT := hid ht
  have HK0 := hid (sameA w [.int .i64 p, .int .i64 f, .int .i64 l] 23)
  have b0 := Blk.newL w [.int .i64 p, .int .i64 f, .int .i64 l] 23
  obtain ⟨g0, g1, g2⟩ := b0.all3
  have HB0 := hid b0
  clear b0 hok hg ht hv
  go_enter Tryd.func3, Tryd.ntmps3
  go_wp2_with fail
  refine (kz _ HK0.out).mono ?_
  rintro e w1 ⟨r, rfl, hr, hk1⟩
  have HK1 := hid (HK0.out.trans hk1)
  have HB1 := hid (HB0.out.same hk1)
  clear hk1 kz g0 g1 g2
  rcases hr with rfl | ⟨hr, hr0⟩
  · go_wp2
    go_ret
    exact ⟨rfl, HK1.out⟩
  have hnn := sizeSp_nonneg ps
  have hn : (ps.length : Int) + sizeSp ps ≤ 1048576 := by omega
  have HN := (show Hid ((ps.length : Int) + sizeSp ps ≤ 1048576) from hn)
  have hlen : ps.length ≤ 1048576 := by omega
  have HSM := (show Hid (∀ x ∈ ps, x.szs ≤ 1073741824) from fun x hx => by have := sizeSp_mem ps x hx; omega)
  have hr1 : ¬ r < 0 := by omega
  clear hr hn
  obtain ⟨g0, g1, g2⟩ := HB1.out.all3
  generalize hl : ps.length = len at HV hlen ⊢
  have HL := hid hl
  clear hl
  have kt := (show ∀ wx, Same w wx → Calls Tryd.prog 8 #[.slice a len c] wx fun e w' => ∃ g qs, e = .returned (.slice (some ⟨g, 0, none⟩) len len) ∧ datSp qs = datSp ps ∧ szsSp qs = szsSp ps ∧ (∀ b, footSp (.slice (some ⟨g, 0, none⟩) len len) qs b → wx.heap.size ≤ b) ∧ OwnSp w' (.slice (some ⟨g, 0, none⟩) len len) qs ∧ Same wx w' from fun wx hk => by
    have h := toStepS_any (.slice a len c) ps wx (by rw [HL.out]; exact hlen) HSM.out (HV.out.same hk)
    rw [HL.out] at h
    exact h)
  obtain ⟨S, hS⟩ : ∃ S, scT p f l (datSp ps) = S := ⟨_, rfl⟩
  have HS := hid hS
  clear hS
  have ks := (show ∀ wx u qs, datSp qs = datSp ps → szsSp qs = szsSp ps → RdSp wx u qs → Calls Tryd.prog 6 #[.agg #[.int .i64 p, .int .i64 f, .int .i64 l], u] wx fun e w' => e = .returned (.string (Tx S)) ∧ Same wx w' from fun wx u qs h1 h2 h3 => by
    have hl : qs.length = ps.length := by rw [← datSp_length, h1, datSp_length]
    have h := specScript_any p f l u qs wx HG.out h3 (ok_of h1 HOK.out) (by rw [hl, sizeSp_szs h2]; exact HN.out)
    rw [h1, HS.out] at h
    exact h)
  have ki := (show ∀ wx u qs, datSp qs = datSp ps → szsSp qs = szsSp ps → RdSp wx u qs → Same w wx → Calls Tryd.prog 9 #[.agg #[.int .i64 p, .int .i64 f, .int .i64 l], u] wx fun e w' => e = .returned (.string (Tx S)) ∧ Same wx w' from fun wx u qs h1 h2 h3 hk => by
    have hl : qs.length = ps.length := by rw [← datSp_length, h1, datSp_length]
    have h := implScript_any p f l u qs wx HG.out h3 (ok_of h1 HOK.out) (by rw [hl, sizeSp_szs h2]; exact HN.out) (HT.out.same hk)
    rw [h1, HS.out] at h
    exact h)
  go_wp2_with fail
  refine (toGeo_any p f l _).mono ?_
  rintro e w2 ⟨rfl, hk2⟩
  have HK2 := hid (HK1.out.trans hk2)
  have HB2 := hid (HB1.out.same hk2)
  clear hk2
  go_wp2_with fail
  refine (kt _ HK2.out).mono ?_
  rintro e w3 ⟨G3, qs3, rfl, hd3, hz3, hf3, ho3, hk3⟩
  have HK3 := hid (HK2.out.trans hk3)
  have HB3 := hid (HB2.out.same hk3)
  have k3 := ks _ _ qs3 hd3 hz3 ho3.rd
  clear hk3 hd3 hz3 hf3 ho3 ks
  go_wp2_with fail
  refine k3.mono ?_
  rintro e w4 ⟨rfl, hk4⟩
  have HK4 := hid (HK3.out.trans hk4)
  have HB4 := hid (HB3.out.same hk4)
  clear hk4 k3 g0 g1 g2
  go_wp2_with fail
  refine (kt _ HK4.out).mono ?_
  rintro e w5 ⟨G5, qs5, rfl, hd5, hz5, hf5, ho5, hk5⟩
  have HK5 := hid (HK4.out.trans hk5)
  have HB5 := hid (HB4.out.same hk5)
  have HD5 := hid hd5
  have HZ5 := hid hz5
  have HO5 := hid ho5
  clear hk5 hd5 hz5 hf5 ho5
  obtain ⟨g0, g1, g2⟩ := HB5.out.all3
  go_wp2_with fail
  refine (toGeo_any p f l _).mono ?_
  rintro e w6 ⟨rfl, hk6⟩
  have HK6 := hid (HK5.out.trans hk6)
  have HO6 := hid (HO5.out.same hk6)
  clear hk6 g0 g1 g2
  have k6 := ki _ _ qs5 HD5.out HZ5.out HO6.out.rd HK6.out
  go_wp2_with fail
  refine k6.mono ?_
  rintro e w7 ⟨rfl, hk7⟩
  have HK7 := hid (HK6.out.trans hk7)
  have HO7 := hid (HO6.out.same hk7)
  clear hk7 k6 ki
  go_wp2_with fail
  refine (kt _ HK7.out).mono ?_
  rintro e w8 ⟨G8, qs8, rfl, hd8, hz8, hf8, ho8, hk8⟩
  have HK8 := hid (HK7.out.trans hk8)
  have HO8 := hid (HO7.out.same hk8)
  have ke := eqStepS_own _ _ qs5 qs8 w8 (by have h := HL.out; have e : qs5.length = ps.length := by rw [← datSp_length, HD5.out, datSp_length]
                                            omega) (by rw [HD5.out, hd8]) (fun x hx => by
    have h1 := sizeSp_mem qs5 x hx
    rw [sizeSp_szs HZ5.out] at h1
    have h2 : x.size ≤ 4 * x.szs := StStep.size_rd (HO8.out.rd.data x hx)
    have h3 := HN.out
    omega) HO8.out ho8
  clear hk8 hd8 hz8 hf8 ho8
  go_wp2_with fail
  refine ke.mono ?_
  rintro e w9 ⟨rfl, hk9⟩
  have HK9 := hid (HK8.out.trans hk9)
  clear hk9
  go_wp2
  go_ret
  exact ⟨rfl, HK9.out⟩
end Go.Proofs.YtbilnlgjpchgiaaDoor
