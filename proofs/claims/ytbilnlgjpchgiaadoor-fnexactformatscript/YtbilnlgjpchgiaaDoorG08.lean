import Derived.Test.YtbilnlgjpchgiaaDoorG07
import Derived.Test.YtbilnlgjpchgiaaDoorG00
import Derived.Test.YtbilnlgjpchgiaaDoorRows
import Derived.Test.YtbilnlgjpchgiaaDoorG01
import Derived.Test.YtbilnlgjpchgiaaDoorG02
import Derived.WalkKit
import Derived.ProofKit
import Derived.OpenShut
import Derived.ShutString
import Derived.ChangeOld
import Derived.Below
import Derived.Lib.SmallJoins
import Derived.Deep.Slices
import Derived.Stop.LaidTwo
import Derived.LaidLaws
import Derived.LaidHandle
import Derived.ChangeVars
import Derived.LaidMore
import Derived.OpenVars
import Derived.Lib.LaidTab
import Derived.Deep.CutBlock
namespace Go.Proofs.YtbilnlgjpchgiaaDoor
set_option maxRecDepth 100000
set_option maxHeartbeats 8000000
set_option linter.unusedVariables false
set_option linter.unusedSimpArgs false
open Go.RowKit Go.ChangeShapes Go.WideShapes Go.ChangeAt
def frmS (k : Nat) : List UInt8 :=
 if k = 1 then [98, 101, 103, 105, 110] else if k = 2 then [105, 110, 115, 101, 114, 116, 32, 116, 120, 110, 32, 100, 97, 116, 97] else if k = 3 then [117, 112, 100, 97, 116, 101, 32, 116, 120, 110, 32, 105, 100, 32, 100, 97, 116, 97] else if k = 4 then [100, 101, 108, 101, 116, 101, 32, 116, 120, 110, 32, 105, 100] else if k = 5 then [114, 101, 97, 100, 32, 116, 120, 110, 32, 105, 100] else if k = 6 then [99, 111, 109, 109, 105, 116, 32, 116, 120, 110] else if k = 7 then [97, 98, 111, 114, 116, 32, 116, 120, 110] else if k = 8 then [99, 104, 101, 99, 107, 112, 111, 105, 110, 116] else if k = 9 then [114, 101, 115, 116, 97, 114, 116] else if k = 10 then [99, 114, 97, 115, 104, 32, 107, 101, 101, 112] else if k = 11 then [99, 117, 116, 32, 99, 111, 117, 110, 116] else []
structure Tabs (w : World) : Prop where
 pow : Lib.TabIs Tryd.prog w "internal/strconv.uint64pow10" .u64 Lib.pow10Tab
 spc : Lib.TabIs Tryd.prog w "strings.asciiSpace" .u8 Lib.asciiSpaceTab
 frm : ∀ k, k < 12 → w.cell? ⟨0, k, none⟩ = some (.string (Tx (frmS k)))
theorem var_sameT {W W' : World} {n : String} {cs : Array Value} (hk : Same W W') (h : W.var? Tryd.prog n = some cs) : W'.var? Tryd.prog n = some cs := by
 unfold World.var? at h ⊢
 cases hg : Tryd.prog.globalNamed n with
 | none => simp [hg] at h
 | some g =>
  simp only [hg, Option.bind_some] at h ⊢
  cases ho : W.heap[g]? with
  | none => simp [ho] at h
  | some ob => rw [hk.heap ho id]; rw [ho] at h; exact h
theorem Tabs.same {w w' : World} (h : Tabs w) (hk : Same w w') : Tabs w' := ⟨var_sameT hk h.pow, var_sameT hk h.spc, fun k hj => hk.cellOf (h.frm k hj) id⟩
theorem grow_same (w : World) (k : Nat) (os : Array Obj) : Same w (Sort.grow (w.drewN k) os) :=
 ⟨rfl, rfl, rfl, by simp [Sort.grow], fun j hj _ => by simp only [Sort.grow]; exact Array.getElem?_append_left hj⟩
theorem numI_any (n : Int) (h0 : -9223372036854775808 ≤ n) (h1 : n ≤ 9223372036854775807) (w : World) (ht : Tabs w) : Calls Tryd.prog 43 #[.int .i64 n] w fun e w' => e = .returned (.string (Tx (Lib.itoa n))) ∧ Same w w' := by
 have kf : Calls Tryd.prog 75 #[.int .i64 n, .int .i64 10] w fun e w' => e = .returned (.string (Tx (Lib.itoa n))) ∧ Same w w' := (Any.strconv_FormatInt_10 Tryd.layInt n h0 h1 w ht.pow).mono (fun e w' ⟨he, k, os, hw⟩ => ⟨he, hw ▸ grow_same w k os⟩)
 go_enter Tryd.func43, Tryd.ntmps43
 go_wp2_with fail
 refine kf.mono ?_
 rintro e w1 ⟨rfl, hk1⟩
 have HK1 := hid hk1
 clear hk1
 go_wp2
 go_ret
 exact ⟨rfl, HK1.out⟩
theorem lineI_any (bk o c : Nat) (xs : List (List UInt8)) (w : World) (hc : ∀ (j : Nat) x, xs[j]? = some x → w.cell? ⟨bk, o + j, none⟩ = some (.string (Tx x))) (hbk : bk < w.heap.size) (hN : xs.length ≤ 1048576) (hcap : xs.length ≤ c) (hlen : (Lib.join xs [32]).length ≤ 1099511627776) :
  Calls Tryd.prog 42 #[.slice (some ⟨bk, o, none⟩) xs.length c] w fun e w' => e = .returned (.string (Tx (Lib.join xs [32] ++ [10]))) ∧ Same w w' := by
 have hmm : (xs.map Tx).map (·.data.toList) = xs := by
  rw [List.map_map]
  have : ((fun x : ByteArray => x.data.toList) ∘ Tx) = id := by funext l; simp [Tx]
  rw [this, List.map_id]
 have kj : Calls Tryd.prog 74 #[.slice (some ⟨bk, o, none⟩) xs.length c, .string ⟨#[32]⟩] w fun e w' => e = .returned (.string (Tx (Lib.join xs [32]))) ∧ Same w w' := by
  have h := Any.strings_Join Tryd.layJoin Tryd.extraJ bk o c (xs.map Tx) ⟨#[32]⟩ w (fun j x hx => by
   rw [List.getElem?_map, Option.map_eq_some_iff] at hx
   obtain ⟨y, hy, rfl⟩ := hx
   exact hc j y hy) hbk (by rw [List.length_map]; omega) (by rw [List.length_map]; exact hcap) (by rw [hmm]; exact Nat.le_trans hlen (by decide))
  rw [hmm, List.length_map] at h
  exact h.mono (fun e w' ⟨he, hw⟩ => ⟨he, Kept.of_below hw⟩)
 have HE := (show Hid (Tx (Lib.join xs [32]) ++ (⟨#[10]⟩ : ByteArray) = Tx (Lib.join xs [32] ++ [10])) from tx_app _ [10])
 obtain ⟨T, hT⟩ : ∃ T, Lib.join xs [32] = T := ⟨_, rfl⟩
 rw [hT] at kj HE hlen ⊢
 have z : ¬ 9223372036854775807 < T.length + 1 := by omega
 clear hT hc hmm
 go_enter Tryd.func42, Tryd.ntmps42
 go_wp2_with fail
 refine kj.mono ?_
 rintro e w1 ⟨rfl, hk1⟩
 have HK1 := hid hk1
 clear hk1
 go_wp2
 go_ret
 exact ⟨by rw [HE.out]; rfl, HK1.out⟩
theorem fieldI_txn (x : StStep) (w : World) (h : StStep.ln w x) (ht : Tabs w) :
  Calls Tryd.prog 66 #[.agg #[.int .i64 x.kd, .int .i64 x.tx, .int .i64 x.rid, .int .i64 x.cnt, x.data.v, x.keep.v], .string ⟨#[116, 120, 110]⟩] w fun e w' => e = .returned (.string (Tx (Lib.itoa x.tx))) ∧ Same w w' := by
 have kf : ∀ wx, Same w wx → Calls Tryd.prog 43 #[.int .i64 x.tx] wx fun e w' => e = .returned (.string (Tx (Lib.itoa x.tx))) ∧ Same wx w' := fun wx hk => numI_any x.tx h.ok.tx.1 h.ok.tx.2 wx (ht.same hk)
 have HK0 := hid (sameA w [.int .i64 x.kd, .int .i64 x.tx, .int .i64 x.rid, .int .i64 x.cnt, x.data.v, x.keep.v] 61)
 obtain ⟨T, hT⟩ : ∃ T, Lib.itoa x.tx = T := ⟨_, rfl⟩
 rw [hT] at kf ⊢
 obtain ⟨kd, tx, rid, cnt, ⟨d1, d2, d3, d4⟩, ⟨e1, e2, e3, e4, e5⟩⟩ := x
 dsimp only [BS.v, FR.v] at *
 clear hT h ht
 go_enter Tryd.func66, Tryd.ntmps66
 go_wp2_with fail
 refine (kf _ HK0.out).mono ?_
 rintro e w1 ⟨rfl, hk1⟩
 have HK1 := hid (HK0.out.trans hk1)
 clear hk1
 go_wp2
 go_ret
 exact ⟨rfl, HK1.out⟩
theorem fieldI_id (x : StStep) (w : World) (h : StStep.ln w x) (ht : Tabs w) :
  Calls Tryd.prog 66 #[.agg #[.int .i64 x.kd, .int .i64 x.tx, .int .i64 x.rid, .int .i64 x.cnt, x.data.v, x.keep.v], .string ⟨#[105, 100]⟩] w fun e w' => e = .returned (.string (Tx (Lib.itoa x.rid))) ∧ Same w w' := by
 have kf : ∀ wx, Same w wx → Calls Tryd.prog 43 #[.int .i64 x.rid] wx fun e w' => e = .returned (.string (Tx (Lib.itoa x.rid))) ∧ Same wx w' := fun wx hk => numI_any x.rid h.ok.rid.1 h.ok.rid.2 wx (ht.same hk)
 have HK0 := hid (sameA w [.int .i64 x.kd, .int .i64 x.tx, .int .i64 x.rid, .int .i64 x.cnt, x.data.v, x.keep.v] 61)
 obtain ⟨T, hT⟩ : ∃ T, Lib.itoa x.rid = T := ⟨_, rfl⟩
 rw [hT] at kf ⊢
 obtain ⟨kd, tx, rid, cnt, ⟨d1, d2, d3, d4⟩, ⟨e1, e2, e3, e4, e5⟩⟩ := x
 dsimp only [BS.v, FR.v] at *
 clear hT h ht
 go_enter Tryd.func66, Tryd.ntmps66
 go_wp2_with fail
 refine (kf _ HK0.out).mono ?_
 rintro e w1 ⟨rfl, hk1⟩
 have HK1 := hid (HK0.out.trans hk1)
 clear hk1
 go_wp2
 go_ret
 exact ⟨rfl, HK1.out⟩
theorem fieldI_count (x : StStep) (w : World) (h : StStep.ln w x) (ht : Tabs w) :
  Calls Tryd.prog 66 #[.agg #[.int .i64 x.kd, .int .i64 x.tx, .int .i64 x.rid, .int .i64 x.cnt, x.data.v, x.keep.v], .string ⟨#[99, 111, 117, 110, 116]⟩] w fun e w' => e = .returned (.string (Tx (Lib.itoa x.cnt))) ∧ Same w w' := by
 have kf : ∀ wx, Same w wx → Calls Tryd.prog 43 #[.int .i64 x.cnt] wx fun e w' => e = .returned (.string (Tx (Lib.itoa x.cnt))) ∧ Same wx w' := fun wx hk => numI_any x.cnt h.ok.cnt.1 h.ok.cnt.2 wx (ht.same hk)
 have HK0 := hid (sameA w [.int .i64 x.kd, .int .i64 x.tx, .int .i64 x.rid, .int .i64 x.cnt, x.data.v, x.keep.v] 61)
 obtain ⟨T, hT⟩ : ∃ T, Lib.itoa x.cnt = T := ⟨_, rfl⟩
 rw [hT] at kf ⊢
 obtain ⟨kd, tx, rid, cnt, ⟨d1, d2, d3, d4⟩, ⟨e1, e2, e3, e4, e5⟩⟩ := x
 dsimp only [BS.v, FR.v] at *
 clear hT h ht
 go_enter Tryd.func66, Tryd.ntmps66
 go_wp2_with fail
 refine (kf _ HK0.out).mono ?_
 rintro e w1 ⟨rfl, hk1⟩
 have HK1 := hid (HK0.out.trans hk1)
 clear hk1
 go_wp2
 go_ret
 exact ⟨rfl, HK1.out⟩
theorem fieldI_keep (x : StStep) (w : World) (h : StStep.ln w x) (ht : Tabs w) :
  Calls Tryd.prog 66 #[.agg #[.int .i64 x.kd, .int .i64 x.tx, .int .i64 x.rid, .int .i64 x.cnt, x.data.v, x.keep.v], .string ⟨#[107, 101, 101, 112]⟩] w fun e w' => e = .returned (.string (Tx (kpW x.keep.bs))) ∧ Same w w' := by
 have kf : ∀ wx, Same w wx → Calls Tryd.prog 86 #[x.keep.v] wx fun e w' => e = .returned (.string (Tx (kpW x.keep.bs))) ∧ Same wx w' := fun wx hk => keepI_any x.keep.v x.keep.bs wx h.dig h.kl h.rd.2.formK ((h.rd.2.same hk).intsK)
 have HK0 := hid (sameA w [.int .i64 x.kd, .int .i64 x.tx, .int .i64 x.rid, .int .i64 x.cnt, x.data.v, x.keep.v] 61)
 obtain ⟨T, hT⟩ : ∃ T, kpW x.keep.bs = T := ⟨_, rfl⟩
 rw [hT] at kf ⊢
 obtain ⟨kd, tx, rid, cnt, ⟨d1, d2, d3, d4⟩, ⟨e1, e2, e3, e4, e5⟩⟩ := x
 dsimp only [BS.v, FR.v] at *
 clear hT h ht
 go_enter Tryd.func66, Tryd.ntmps66
 go_wp2_with fail
 refine (kf _ HK0.out).mono ?_
 rintro e w1 ⟨rfl, hk1⟩
 have HK1 := hid (HK0.out.trans hk1)
 clear hk1
 go_wp2
 go_ret
 exact ⟨rfl, HK1.out⟩
theorem fieldI_data (x : StStep) (w : World) (h : StStep.ln w x) (ht : Tabs w) :
  Calls Tryd.prog 66 #[.agg #[.int .i64 x.kd, .int .i64 x.tx, .int .i64 x.rid, .int .i64 x.cnt, x.data.v, x.keep.v], .string ⟨#[100, 97, 116, 97]⟩] w fun e w' => e = .returned (.string (Tx (hxW x.data.bs))) ∧ Same w w' := by
 have kf : ∀ wx, Same w wx → Calls Tryd.prog 76 #[x.data.v] wx fun e w' => e = .returned (.string (Tx (hxW x.data.bs))) ∧ Same wx w' := fun wx hk => implHex_any x.data.v x.data.bs wx h.ok.data h.dl (h.rd.1.same hk)
 have HK0 := hid (sameA w [.int .i64 x.kd, .int .i64 x.tx, .int .i64 x.rid, .int .i64 x.cnt, x.data.v, x.keep.v] 61)
 obtain ⟨T, hT⟩ : ∃ T, hxW x.data.bs = T := ⟨_, rfl⟩
 rw [hT] at kf ⊢
 obtain ⟨kd, tx, rid, cnt, ⟨d1, d2, d3, d4⟩, ⟨e1, e2, e3, e4, e5⟩⟩ := x
 dsimp only [BS.v, FR.v] at *
 clear hT h ht
 go_enter Tryd.func66, Tryd.ntmps66
 go_wp2_with fail
 refine (kf _ HK0.out).mono ?_
 rintro e w1 ⟨rfl, hk1⟩
 have HK1 := hid (HK0.out.trans hk1)
 clear hk1
 go_wp2
 go_ret
 exact ⟨rfl, HK1.out⟩
theorem array_geo {cs : Array Value} (h : cs.size = 3) : ∃ c0 c1 c2, cs = #[c0, c1, c2] := by
 obtain ⟨l⟩ := cs
 match l, h with
 | [c0, c1, c2], _ => exact ⟨c0, c1, c2, rfl⟩
section
variable {H : Type} {enc : TypeId × Value → H} {w : World} {base : Nat} {spare : Nat → Bool} {held : Bool}
end
theorem cells_of_strs {H : Type} {enc : TypeId × Value → H} {P : Program} {w : World} {base : Nat} {sp : Nat → Bool} {held : Bool} {fuel : Nat} {t e : TypeId} {n : Nat} {cs : List Value} {zs : List (List UInt8)} {p : List MemPlace}
  (ht : P.underlying t = some (.array n e)) (he : P.underlying e = some .string) (hce : P.cellsOf e = 1) (hct : P.cellsOf t = n)
  (h : DataW.trod enc P w base sp held fuel t cs = some (.agg (zs.map fun z => .lit (.string z)), p)) : cs = zs.map fun z => Value.string (Tx z) := by
 cases fuel with
 | zero => simp [DataW.trod] at h
 | succ fuel =>
  simp only [DataW.trod, ht, hce, hct, Nat.mul_one] at h
  split at h
  ·rename_i hl
   obtain ⟨xs, hm, hx⟩ := Option.map_eq_some_iff.1 h
   have hxs : xs.map (·.1) = zs.map fun z => (DataW.lit (.string z) : DataW H) := by
    have := congrArg Prod.fst hx
    simpa using this
   have hxl : xs.length = n := by simpa using Lib.mapM_length hm
   have hzl : zs.length = n := by
    have := congrArg List.length hxs
    simp at this
    omega
   apply List.ext_getElem?
   intro i
   by_cases hi : i < n
   ·obtain ⟨b, hb, hf⟩ := Lib.mapM_at hm i i (by simp [hi])
    obtain ⟨s, hc, rfl, _⟩ := DataW.trod_string he hf
    have h1 : cs[i]? = some (.string s) := by
     have := congrArg (·[0]?) hc
     simpa [List.getElem?_take, List.getElem?_drop] using this
    have h2 : (xs.map (·.1))[i]? = some (DataW.lit (.string s.data.toList) : DataW H) := by simp [hb]
    rw [hxs] at h2
    simp only [List.getElem?_map, Option.map_eq_some_iff, DataW.lit.injEq, Lit.string.injEq] at h2
    obtain ⟨z, hz, e2⟩ := h2
    have e3 : Tx z = s := by rw [e2]
    rw [List.getElem?_map, hz, h1]
    exact congrArg (fun x => some (Value.string x)) e3.symm
   ·rw [List.getElem?_eq_none (by omega), List.getElem?_eq_none (by simp; omega)]
  ·cases h
abbrev lt0 : String × DataW Unit := ("math/bits.deBruijn32tab", Rows.laid_math_bits_deBruijn32tab)
abbrev lt1 : String × DataW Unit := ("math/bits.deBruijn64tab", Rows.laid_math_bits_deBruijn64tab)
abbrev lt2 : String × DataW Unit := ("internal/strconv.uint64pow10", Rows.laid_internal_strconv_uint64pow10)
abbrev lt3 : String × DataW Unit := ("unicode.White_Space", Rows.laid_unicode_White_Space)
abbrev lt4 : String × DataW Unit := ("strings.asciiSpace", Rows.laid_strings_asciiSpace)
abbrev lt5 : String × DataW Unit := ("loop.example/s02544/impl.stepForms", Rows.laid_loop_example_s02544_impl_stepForms)
theorem gnPow : Tryd.prog.globalNamed lt2.1 = some 3 := by kernel_rfl
theorem gnSpc : Tryd.prog.globalNamed lt4.1 = some 1 := by kernel_rfl
theorem gnFrm : Tryd.prog.globalNamed lt5.1 = some 0 := by kernel_rfl
theorem powData : Rows.laid_internal_strconv_uint64pow10 (H := Unit) = Lib.tabData .u64 Lib.pow10Tab := by kernel_rfl
theorem spcData : Rows.laid_strings_asciiSpace (H := Unit) = Lib.tabData .u8 Lib.asciiSpaceTab := by kernel_rfl
theorem frmData : Rows.laid_loop_example_s02544_impl_stepForms (H := Unit) = .agg (((List.range 12).map frmS).map fun z => .lit (.string z)) := by kernel_rfl
theorem tabs_of {W : World} (h : laidMet Tryd.prog [lt0, lt1, lt2, lt3, lt4, lt5] W) : Tabs W := by
 have h2 : laidMet Tryd.prog (("internal/strconv.uint64pow10", Lib.tabData .u64 Lib.pow10Tab) :: [lt3, lt4, lt5]) W := by rw [← powData]; exact h.tail.tail
 have h4 : laidMet Tryd.prog (("strings.asciiSpace", Lib.tabData .u8 Lib.asciiSpaceTab) :: [lt5]) W := by rw [← spcData]; exact h.tail.tail.tail.tail
 have h5 : laidMet Tryd.prog [lt5] W := h.tail.tail.tail.tail.tail
 refine ⟨Lib.tabIs_of_head gnPow (by kernel_rfl) (t := 187) Tryd.underlying187 Tryd.underlying167 (by kernel_rfl) (by kernel_rfl) h2, Lib.tabIs_of_head gnSpc (by kernel_rfl) (t := 140) Tryd.underlying140 Tryd.underlying5 (by kernel_rfl) (by kernel_rfl) h4, ?_⟩
 obtain ⟨ps, ⟨g', t', cs, fuel, p, q, hg', ht', hvar, hd, _, _⟩, _⟩ := h5
 obtain rfl := Option.some.inj (gnFrm.symm.trans hg')
 obtain rfl := Option.some.inj ((show (Tryd.prog.globals[0]?).map (·.type) = some 112 by kernel_rfl).symm.trans ht')
 rw [frmData] at hd
 have hcs := cells_of_strs Tryd.underlying112 Tryd.underlying9 (by kernel_rfl) (by kernel_rfl) hd
 intro k hk
 have hc := World.var?_cell gnFrm hvar k
 rw [hc, ← Array.getElem?_toList, hcs]
 simp [hk]
section
variable {H : Type} {enc : TypeId × Value → H} {w : World} {base : Nat} {spare : Nat → Bool} {held : Bool}
theorem open_geoB {r : Reach} {b0 : Nat} {v : Value} {d : DataW H} {p : List MemPlace} (hv : Value.okWide Tryd.prog w r b0 23 v) (h : DataW.Trod enc Tryd.prog w base spare held 23 v d p) :
  ∃ p f l : Int, v = .agg #[.int .i64 p, .int .i64 f, .int .i64 l] ∧ IsG p f l := by
 obtain ⟨cs, rfl, hsz⟩ := okWide_struct Tryd.underlying23 hv
 obtain ⟨c0, c1, c2, rfl⟩ := array_geo (hsz.trans (by kernel_rfl))
 obtain ⟨fuel, hf⟩ := h
 obtain ⟨xs, n, _, _, _, hxl, hg⟩ := DataW.trod_struct Tryd.underlying23 hf
 have g0 : ∃ x, DataW.trod enc Tryd.prog w base spare held n 2 [c0] = some x := ⟨xs[0]'(by rw [hxl]; decide), by have h := hg 0 _ rfl; rw [List.getElem?_eq_getElem (by rw [hxl]; decide)] at h; exact h⟩
 obtain ⟨x0, g0⟩ := g0
 obtain ⟨z0, e0, _, B0⟩ := DataW.trod_int Tryd.underlying2 g0
 simp at e0
 subst e0
 have g1 : ∃ x, DataW.trod enc Tryd.prog w base spare held n 2 [c1] = some x := ⟨xs[1]'(by rw [hxl]; decide), by have h := hg 1 _ rfl; rw [List.getElem?_eq_getElem (by rw [hxl]; decide)] at h; exact h⟩
 obtain ⟨x1, g1⟩ := g1
 obtain ⟨z1, e1, _, B1⟩ := DataW.trod_int Tryd.underlying2 g1
 simp at e1
 subst e1
 have g2 : ∃ x, DataW.trod enc Tryd.prog w base spare held n 2 [c2] = some x := ⟨xs[2]'(by rw [hxl]; decide), by have h := hg 2 _ rfl; rw [List.getElem?_eq_getElem (by rw [hxl]; decide)] at h; exact h⟩
 obtain ⟨x2, g2⟩ := g2
 obtain ⟨z2, e2, _, B2⟩ := DataW.trod_int Tryd.underlying2 g2
 simp at e2
 subst e2
 exact ⟨z0, z1, z2, rfl, int_bounds B0, int_bounds B1, int_bounds B2⟩
end
theorem geoI_any (p f l : Int) (w : World) (hg : IsG p f l) (ht : Tabs w) : Calls Tryd.prog 27 #[.agg #[.int .i64 p, .int .i64 f, .int .i64 l]] w fun e w' => e = .returned (.string (Tx (gLn p f l))) ∧ Same w w' := by
 have HK0 := hid (sameA w [.int .i64 p, .int .i64 f, .int .i64 l] 27)
 have b0 := Blk.newL w [.int .i64 p, .int .i64 f, .int .i64 l] 27
 obtain ⟨g0, g1, g2⟩ := b0.all3
 have n0 := fun wx hk => numI_any p hg.1.1 hg.1.2 wx (ht.same hk)
 have n1 := fun wx hk => numI_any f hg.2.1.1 hg.2.1.2 wx (ht.same hk)
 have n2 := fun wx hk => numI_any l hg.2.2.1 hg.2.2.2 wx (ht.same hk)
 have l0 := itoa_len p hg.1.1 hg.1.2
 have l1 := itoa_len f hg.2.1.1 hg.2.1.2
 have l2 := itoa_len l hg.2.2.1 hg.2.2.2
 unfold gLn
 obtain ⟨T0, hT0⟩ : ∃ T, Lib.itoa p = T := ⟨_, rfl⟩
 obtain ⟨T1, hT1⟩ : ∃ T, Lib.itoa f = T := ⟨_, rfl⟩
 obtain ⟨T2, hT2⟩ : ∃ T, Lib.itoa l = T := ⟨_, rfl⟩
 rw [hT0] at l0 n0 ⊢
 rw [hT1] at l1 n1 ⊢
 rw [hT2] at l2 n2 ⊢
 have HLN := (show Hid (∀ wx : World, Calls Tryd.prog 42 #[.slice (some ⟨wx.heap.size, 0, none⟩) 4 4] (wx.alloc (.cells #[.string ⟨#[104, 101, 97, 112]⟩, .string (Tx T0), .string (Tx T1), .string (Tx T2)] 9)) fun e w' => e = .returned (.string (Tx (Lib.join [[104, 101, 97, 112], T0, T1, T2] [32] ++ [10]))) ∧ Same (wx.alloc (.cells #[.string ⟨#[104, 101, 97, 112]⟩, .string (Tx T0), .string (Tx T1), .string (Tx T2)] 9)) w') from fun wx => by
  have hb := Blk.newL wx [.string (Tx [104, 101, 97, 112]), .string (Tx T0), .string (Tx T1), .string (Tx T2)] 9
  refine lineI_any wx.heap.size 0 4 [[104, 101, 97, 112], T0, T1, T2] _ (fun j x hx => ?_) hb.lt (by simp) (by simp) (by rw [join4]; simp only [List.length_append, List.length_cons, List.length_nil]; omega)
  have hj : j < 4 := (List.getElem?_eq_some_iff.1 hx).1
  rw [Nat.zero_add]
  have h := hb.cell j
  refine h.trans ?_
  rcases (by omega : j = 0 ∨ j = 1 ∨ j = 2 ∨ j = 3) with rfl | rfl | rfl | rfl <;> (simp at hx; subst hx; rfl))
 clear hT0 hT1 hT2 hg ht b0
 go_enter Tryd.func27, Tryd.ntmps27
 go_upto_region 1 with fail
 generalize w.alloc (.cells #[.int .i64 p, .int .i64 f, .int .i64 l] 27) = wa at g0 g1 g2 HK0 ⊢
 have HSS := (show Hid (∀ wx, Same wa wx → wx.cell? ⟨w.heap.size, 0, none⟩ = some (.int .i64 p) ∧ wx.cell? ⟨w.heap.size, 1, none⟩ = some (.int .i64 f) ∧ wx.cell? ⟨w.heap.size, 2, none⟩ = some (.int .i64 l)) from fun wx h => ⟨h.cellOf g0 id, h.cellOf g1 id, h.cellOf g2 id⟩)
 have HKW := (show Hid (Same wa wa.drew) from (Kept.refl _ _).drew)
 have hS := HSS.out _ HKW.out
 refine wp_region_V (fun wx : World => wx.cell? ⟨w.heap.size, 0, none⟩ = some (.int .i64 p) ∧ wx.cell? ⟨w.heap.size, 1, none⟩ = some (.int .i64 f) ∧ wx.cell? ⟨w.heap.size, 2, none⟩ = some (.int .i64 l)) 99 12 rfl (by kernel_rfl) ?_
 clear g0 g1 g2
 generalize wa.drew = q at hS HKW ⊢
 refine tk 0 3 hS ?_
 refine tk 1 4 hS ?_
 refine tk 3 6 hS ?_
 refine tk 4 7 hS ?_
 refine tk 6 9 hS ?_
 refine tk 7 10 hS ?_
 refine wpAnyV_one (i := 2) (by kernel_rfl) rfl (fun K hK => ?_)
 go_simp
 refine (n0 _ (HK0.out.trans HKW.out)).mono ?_
 rintro e q0 ⟨rfl, hk1⟩
 have HW0 := hid (HKW.out.trans hk1)
 have hS0 := HSS.out _ HW0.out
 refine hK.out _ _ (fun _ => hS0) ?_
 clear hK K hk1 n0 hS
 try simp only [Act.put, sA, s0, sS]
 refine wpAnyV_one (i := 5) (by kernel_rfl) rfl (fun K hK => ?_)
 go_simp
 refine (n1 _ (HK0.out.trans HW0.out)).mono ?_
 rintro e q1 ⟨rfl, hk1⟩
 have HW1 := hid (HW0.out.trans hk1)
 have hS1 := HSS.out _ HW1.out
 refine hK.out _ _ (fun _ => hS1) ?_
 clear hK K hk1 n1 hS0
 try simp only [Act.put, sA, s0, sS]
 refine wpAnyV_one (i := 8) (by kernel_rfl) rfl (fun K hK => ?_)
 go_simp
 refine (n2 _ (HK0.out.trans HW1.out)).mono ?_
 rintro e q2 ⟨rfl, hk1⟩
 have HW2 := hid (HW1.out.trans hk1)
 have hS2 := HSS.out _ HW2.out
 refine hK.out _ _ (fun _ => hS2) ?_
 clear hK K hk1 n2 hS1
 try simp only [Act.put, sA, s0, sS]
 refine wpAnyV_one (i := 9) (by kernel_rfl) rfl (fun K hK => ?_)
 go_simp
 have HW3 := hid (HW2.out.alloc (.cells #[.string ⟨#[104, 101, 97, 112]⟩, .string (Tx T0), .string (Tx T1), .string (Tx T2)] 9))
 have hS3 := HSS.out _ HW3.out
 refine hK.out _ _ (fun _ => hS3) ?_
 clear hK K hS2
 try simp only [Act.put, sA, s0, sS]
 refine wpAnyV_one (i := 10) (by kernel_rfl) rfl (fun K hK => ?_)
 go_simp
 refine (HLN.out _).mono ?_
 rintro e q4 ⟨rfl, hk1⟩
 have HW4 := hid (HW3.out.trans hk1)
 have hS4 := HSS.out _ HW4.out
 refine hK.out _ _ (fun _ => hS4) ?_
 clear hK K hS3 hk1
 try simp only [Act.put, sA, s0, sS]
 refine tk 11 2 hS4 ?_
 refine wpAnyV_done (by kernel_rfl) ?_
 go_wp2
 go_ret
 exact ⟨rfl, HK0.out.trans HW4.out⟩
theorem stepI_of (x : StStep) (w : World) (k : Nat) (nm : List UInt8) (ns : List (List UInt8)) (ws : List UInt8 → List UInt8) (hkd : x.kd = k) (hk : k < 12) (hf : Lib.fields (frmS k) = nm :: ns) (has : ∀ (j : Nat) b, (frmS k)[j]? = some b → b.toNat < 128) (hs : (frmS k).length < 100) (hnl : ns.length ≤ 4)
  (ht : Tabs w) (hw : ∀ n ∈ ns, ∀ wx, Same w wx → Calls Tryd.prog 66 #[.agg #[.int .i64 x.kd, .int .i64 x.tx, .int .i64 x.rid, .int .i64 x.cnt, x.data.v, x.keep.v], .string (Tx n)] wx fun e w' => e = .returned (.string (Tx (ws n))) ∧ Same wx w')
  (hlen : (Lib.join (nm :: ns.map ws) [32]).length ≤ 1099511627776) :
  Calls Tryd.prog 28 #[.agg #[.int .i64 x.kd, .int .i64 x.tx, .int .i64 x.rid, .int .i64 x.cnt, x.data.v, x.keep.v]] w fun e w' => e = .returned (.string (Tx (Lib.join (nm :: ns.map ws) [32] ++ [10]))) ∧ Same w w' := by
 have b0 := Blk.newL w [.int .i64 x.kd, .int .i64 x.tx, .int .i64 x.rid, .int .i64 x.cnt, x.data.v, x.keep.v] 61
 have HK0 := hid (sameA w [.int .i64 x.kd, .int .i64 x.tx, .int .i64 x.rid, .int .i64 x.cnt, x.data.v, x.keep.v] 61)
 have hfr := HK0.out.cellOf (ht.frm k hk) id
 have HFS := (show Hid (∀ wx, Same w wx → Calls Tryd.prog 65 #[.string (Tx (frmS k))] wx fun e w' => e = .returned (.slice (some ⟨wx.heap.size, 0, none⟩) (ns.length + 1) (ns.length + 1)) ∧ w' = wx.alloc (.cells ((nm :: ns).map fun l => Value.string (Tx l)).toArray 9)) from fun wx hk2 => by
  have h := Any.strings_Fields_laid Tryd.layFields (Tx (frmS k)) wx (by rw [tx_size]; omega) (by simpa [Tx] using has) (ht.same hk2).spc
  have e : (Tx (frmS k)).data.toList = frmS k := by simp [Tx]
  rw [e, hf] at h
  exact h)
 have HW := hid hw
 have HB0 := hid b0
 have hki : x.kd = (k : Int) := hkd
 obtain ⟨kd, tx, rid, cnt, ⟨d1, d2, d3, d4⟩, ⟨e1, e2, e3, e4, e5⟩⟩ := x
 dsimp only [BS.v, FR.v] at *
 subst hki
 have hk0 : (k : Int) < 12 := by omega
 clear hw hf has hs b0 ht hkd
 obtain ⟨FK, hFK⟩ : ∃ FK, frmS k = FK := ⟨_, rfl⟩
 rw [hFK] at hfr HFS
 clear hFK
 have HFS2 := hid (HFS.out _ HK0.out)
 go_enter Tryd.func28, Tryd.ntmps28
 go_wp2_with fail
 refine HFS2.out.mono ?_
 rintro e w1 ⟨rfl, rfl⟩
 generalize w.alloc (.cells #[.int .i64 (k : Int), .int .i64 tx, .int .i64 rid, .int .i64 cnt, .slice d2 d4.length d3, .slice e2 e3 e4] 61) = wa at HK0 HB0 hfr HFS2 ⊢
 have hwa := HB0.out.lt
 have HG := hid (Blk.newL wa ((nm :: ns).map fun l => Value.string (Tx l)) 9)
 have HK1 := hid (HK0.out.alloc (.cells ((nm :: ns).map fun l => Value.string (Tx l)).toArray 9))
 have HB1 := hid (HB0.out.alloc (.cells ((nm :: ns).map fun l => Value.string (Tx l)).toArray 9))
 have hgw : w.heap.size ≤ wa.heap.size := HK0.out.size
 generalize wa.alloc (.cells ((nm :: ns).map fun l => Value.string (Tx l)).toArray 9) = wb at HG HK1 HB1 ⊢
 generalize wa.heap.size = G at HG hgw hwa ⊢
 clear HFS HFS2 hfr HK0 HB0
 have HFIN := (show Hid (∀ wx, Blk wx G 9 ((nm :: ns.map ws).map fun l => Value.string (Tx l)) → Calls Tryd.prog 42 #[.slice (some ⟨G, 0, none⟩) (ns.length + 1) (ns.length + 1)] wx fun e w' => e = .returned (.string (Tx (Lib.join (nm :: ns.map ws) [32] ++ [10]))) ∧ Same wx w') from fun wx hb => by
  have h := lineI_any G 0 (ns.length + 1) (nm :: ns.map ws) wx (fun j x hx => by rw [Nat.zero_add, hb.cell, List.getElem?_map, hx]; rfl) hb.lt (by simp; omega) (by simp) hlen
  rw [List.length_cons, List.length_map] at h
  exact h)
 generalize hjn : Lib.join (nm :: ns.map ws) [32] ++ [10] = JN at HFIN ⊢
 have HJN := hid hjn
 clear hjn
 by_cases hz : ns.length = 0
 ·obtain rfl : ns = [] := List.length_eq_zero_iff.1 hz
  have HB9 := (show Hid (Blk wb G 9 ((nm :: ([] : List (List UInt8)).map ws).map fun l => Value.string (Tx l))) from HG.out)
  have kl := HFIN.out wb HB9.out
  clear hz HFIN HG
  dsimp only [List.length_nil, Nat.zero_add] at kl ⊢
  go_wp2
  refine wp_loop_rounds 1 ?_
  rw [rounds_succ]
  go_wp2_with (first | (go_at_call 42; (with_reducible refine kl.mono ?_); rintro e w3 ⟨rfl, hk3⟩; have HK3 := hid (HK1.out.trans hk3); clear hk3 kl))
  go_ret
  exact ⟨by rw [HJN.out]; rfl, HK3.out⟩
 have hz' : 0 < ns.length := by omega
 have hz2 : ns.length ≠ 0 := hz
 go_wp2
 go_loopw [4, 5, 14] (fun y z i wr => ∃ (j : Nat), j ≤ ns.length ∧ i = .int .i64 (j : Int) ∧ Hid (Blk wr G 9 (Value.string (Tx nm) :: ((ns.take j).map ws ++ ns.drop j).map fun l => Value.string (Tx l))) ∧ Hid (Blk wr w.heap.size 61 [.int .i64 (k : Int), .int .i64 tx, .int .i64 rid, .int .i64 cnt, .slice d2 d4.length d3, .slice e2 e3 e4]) ∧ Hid (Same w wr)) (fun _ _ i _ => ns.length - (intOf i).toNat)
 case atStart => exact ⟨0, Nat.zero_le _, rfl, by simpa using HG, HB1, HK1⟩
 case round =>
  obtain ⟨j, hj, rfl, HGr, HBr, HKr⟩ := hrel
  by_cases hlt : j < ns.length
  ·have hji : (j : Int) < (ns.length : Int) := by omega
   have hc1 : wr.cell? ⟨G, 1 + j, none⟩ = some (.string (Tx ns[j])) := by
    rw [HGr.out.cell, Nat.add_comm, List.getElem?_cons_succ, List.getElem?_map, List.getElem?_append_right (by simp; omega)]
    simp [Nat.min_eq_left hj]
   have kw := HW.out ns[j] (List.getElem_mem hlt) wr HKr.out
   have HST := (show Hid (∀ wx, Blk wx G 9 (Value.string (Tx nm) :: ((ns.take j).map ws ++ ns.drop j).map fun l => Value.string (Tx l)) → Blk (wx.setCell ⟨G, j + 1, none⟩ (.string (Tx (ws ns[j])))) G 9 (Value.string (Tx nm) :: ((ns.take (j + 1)).map ws ++ ns.drop (j + 1)).map fun l => Value.string (Tx l))) from fun wx hb => by
    have h := hb.stored (j + 1) (.string (Tx (ws ns[j])))
    have e : (Value.string (Tx nm) :: ((ns.take j).map ws ++ ns.drop j).map fun l => Value.string (Tx l)).set (j + 1) (.string (Tx (ws ns[j]))) = (Value.string (Tx nm) :: ((ns.take (j + 1)).map ws ++ ns.drop (j + 1)).map fun l => Value.string (Tx l)) := by
     rw [List.set_cons_succ, List.take_succ_eq_append_getElem hlt, List.drop_eq_getElem_cons hlt]
     simp only [List.map_append, List.map_cons, List.map_nil, List.append_assoc, List.cons_append, List.nil_append]
     rw [List.set_append_right _ _ (by simp [Nat.min_eq_left hj])]
     simp [Nat.min_eq_left hj]
    rw [e] at h
    exact h)
   have HGF := (show Hid (∀ wx, Blk wx G 9 (Value.string (Tx nm) :: ((ns.take j).map ws ++ ns.drop j).map fun l => Value.string (Tx l)) → ∃ v, wx.cell? ⟨G, j + 1, none⟩ = some v ∧ wx.frozen? ⟨G, j + 1, none⟩ = false) from fun wx hb => ⟨.string (Tx ns[j]), by
    rw [hb.cell, List.getElem?_cons_succ, List.getElem?_map, List.getElem?_append_right (by simp; omega)]
    simp [Nat.min_eq_left hj], hb.frozen _⟩)
   have HWN := (show Hid (Calls Tryd.prog 66 #[.agg #[.int .i64 (k : Int), .int .i64 tx, .int .i64 rid, .int .i64 cnt, .slice d2 d4.length d3, .slice e2 e3 e4], .string (Tx ns[j])] wr fun e w' => e = .returned (.string (Tx (ws ns[j]))) ∧ Same wr w') from kw)
   clear kw
   generalize ns[j] = N at hc1 HST HWN
   have kw := HWN.out
   have HGr2 := hid HGr.out
   obtain ⟨c0, c1, c2, c3, c4, c5⟩ := HBr.out.all6
   go_upto_region 5 with fail
   go_wp2_with (first | (go_at_call 66; (with_reducible refine kw.mono ?_); rintro e w2 ⟨rfl, hk2⟩; have HK2 := hid (HKr.out.trans hk2); have HG2 := hid (HGr2.out.same hk2); have HB2 := hid (HBr.out.same hk2); obtain ⟨v0, hv0, hv1⟩ := HGF.out w2 HG2.out; clear hk2 kw c0 c1 c2 c3 c4 c5 hc1 HWN))
   go_roundw
   case rel =>
    refine ⟨j + 1, by omega, by go_num, HST.out _ HG2.out, HB2.out.other (by intro e; have := HB2.out.lt; simp at e; omega) _, ?_⟩
    exact Kept.setCell HK2.out (.inl (by simpa using hgw)) _
   case measure => simp [intOf]; omega
  ·have hji : ¬ (j : Int) < (ns.length : Int) := by omega
   have HB9 := (show Hid (Blk wr G 9 ((nm :: ns.map ws).map fun l => Value.string (Tx l))) from by
    have h := HGr.out
    rw [show j = ns.length from by omega, List.take_length, List.drop_length, List.append_nil] at h
    exact h)
   have kl := HFIN.out wr HB9.out
   go_wp2_with (first | (go_at_call 42; (with_reducible refine kl.mono ?_); rintro e w3 ⟨rfl, hk3⟩; have HK3 := hid (HKr.out.trans hk3); clear hk3 kl))
   go_ret
   exact ⟨by rw [HJN.out]; rfl, HK3.out⟩
theorem RdF.some {m : Nat} {w : World} {x : FR} (h : RdF m w x) (h0 : 0 < x.n) : ∃ b off, x.a = some ⟨b, off, none⟩ ∧ x.n ≤ x.c := by
 rcases h.2.2 with h1 | ⟨b, off, he, hle, _⟩
 ·omega
 ·exact ⟨b, off, he, hle⟩
theorem Rd.at {w : World} {a : Option Addr} {n c : Nat} {zs : List Int} (h : Rd .i64 w (.slice a n c) zs) {k : Nat} (hk : k < zs.length) : ∃ b off, a = some ⟨b, off, none⟩ ∧ w.cell? ⟨b, off + k, none⟩ = some (.int .i64 (zs.getD k 0)) := by
 rcases h.2 with ⟨hnil, _⟩ | ⟨b, off, c', h, _, hc⟩
 ·rw [hnil] at hk; simp at hk
 ·cases h; exact ⟨b, off, rfl, hc k hk⟩
theorem pageCount_any (x : Int) (w : World) : Calls Tryd.prog 57 #[.int .i64 x] w fun e w' => e = .returned (.bool (inB x 1 16)) ∧ w' = w := by
 unfold inB
 by_cases h : 1 ≤ x
 ·by_cases h2 : x ≤ 16
  ·go_enter Tryd.func57, Tryd.ntmps57
   go_wp2
   go_ret
   exact ⟨by simp [h, h2], rfl⟩
  ·go_enter Tryd.func57, Tryd.ntmps57
   go_wp2
   go_ret
   exact ⟨by simp [h]; try omega, rfl⟩
 ·go_enter Tryd.func57, Tryd.ntmps57
  go_wp2
  go_ret
  exact ⟨by rw [show decide (1 ≤ x) = false from by simp; omega]; rfl, rfl⟩
theorem implMinLog_any (p : Int) (w : World) : Calls Tryd.prog 58 #[.int .i64 p] w fun e w' => e = .returned (.int .i64 (minLog p)) ∧ Same w w' := by
 have k1 := fun wx => pageCount_any p wx
 unfold minLog
 cases h : inB p 1 16 with
 | false =>
  rw [h] at k1
  go_enter Tryd.func58, Tryd.ntmps58
  go_wp2_with fail
  refine (k1 _).mono ?_
  rintro e w1 ⟨rfl, rfl⟩
  go_wp2
  go_ret
  exact ⟨rfl, Kept.refl _ _⟩
 | true =>
  rw [h] at k1
  obtain ⟨h1, h2⟩ := inB_yes h
  have hw1 : IntKind.i64.wrap (9 * p) = 9 * p := by rw [IntKind.wrap_i64]; omega
  have hw2 : IntKind.i64.wrap (9 * p + 24) = 9 * p + 24 := by rw [IntKind.wrap_i64]; omega
  go_enter Tryd.func58, Tryd.ntmps58
  go_wp2_with fail
  refine (k1 _).mono ?_
  rintro e w1 ⟨rfl, rfl⟩
  go_wp2
  go_ret
  exact ⟨by first | rfl | trivial, Kept.refl _ _⟩
theorem implGeo_any (p f l : Int) (w : World) : Calls Tryd.prog 22 #[.agg #[.int .i64 p, .int .i64 f, .int .i64 l]] w fun e w' => e = .returned (.int .i64 (geoF p f l)) ∧ Same w w' := by
 have HK0 := hid (sameA w [.int .i64 p, .int .i64 f, .int .i64 l] 27)
 have b0 := Blk.newL w [.int .i64 p, .int .i64 f, .int .i64 l] 27
 have k1 := fun wx => pageCount_any p wx
 have k3 := fun wx => implMinLog_any p wx
 obtain ⟨R, hR⟩ : ∃ R, geoF p f l = R := ⟨_, rfl⟩
 rw [hR]
 unfold geoF at hR
 generalize minLog p = ml at k3 hR
 cases h1 : inB p 1 16 with
 | false =>
  rw [h1] at k1 hR
  rw [if_pos rfl] at hR
  subst hR
  go_enter Tryd.func22, Tryd.ntmps22
  go_wp2_with fail
  refine (k1 _).mono ?_
  rintro e w1 ⟨rfl, rfl⟩
  go_wp2
  go_ret
  exact ⟨rfl, HK0.out⟩
 | true =>
  rw [h1] at k1 hR
  rw [if_neg (by simp)] at hR
  obtain ⟨c0, c1, c2⟩ := b0.all3
  by_cases h2 : f < 3
  ·rw [if_pos (by simp [inB]; omega)] at hR
   subst hR
   go_enter Tryd.func22, Tryd.ntmps22
   go_wp2_with fail
   refine (k1 _).mono ?_
   rintro e w1 ⟨rfl, rfl⟩
   go_wp2
   go_ret
   exact ⟨rfl, HK0.out⟩
  by_cases h3 : 16 < f
  ·rw [if_pos (by simp [inB]; omega)] at hR
   subst hR
   go_enter Tryd.func22, Tryd.ntmps22
   go_wp2_with fail
   refine (k1 _).mono ?_
   rintro e w1 ⟨rfl, rfl⟩
   go_wp2
   go_ret
   exact ⟨rfl, HK0.out⟩
  rw [if_neg (by simp [inB]; omega)] at hR
  go_enter Tryd.func22, Tryd.ntmps22
  go_wp2_with fail
  refine (k1 _).mono ?_
  rintro e w1 ⟨rfl, rfl⟩
  generalize w.alloc (.cells #[.int .i64 p, .int .i64 f, .int .i64 l] 27) = wa at c0 c1 c2 HK0 ⊢
  clear b0
  go_wp2_with fail
  let Y1 : World → Prop := fun wx : World => wx.cell? ⟨w.heap.size, 0, none⟩ = some (.int .i64 p) ∧ wx.cell? ⟨w.heap.size, 2, none⟩ = some (.int .i64 l)
  have hS : Y1 wa.drew := ⟨c0, c2⟩
  refine wp_region_V Y1 99 12 rfl (by kernel_rfl) ?_
  refine tk 0 18 hS ?_
  refine tk 1 19 hS ?_
  refine tk 2 20 hS ?_
  refine tk 3 21 hS ?_
  refine wpAnyV_one (i := 4) (by kernel_rfl) rfl (fun K hK => ?_)
  go_simp
  refine (k3 _).mono ?_
  rintro e w3 ⟨rfl, hk3⟩
  have HK23 : Hid (Same wa w3) := (Kept.refl _ _).drew.trans hk3
  have HK3 := hid (HK0.out.trans HK23.out)
  have hS : Y1 w3 := ⟨HK23.out.cellOf c0 id, HK23.out.cellOf c2 id⟩
  refine hK.out _ _ (fun _ => hS) ?_
  clear hK K hk3
  try simp only [Act.put, sA, s0, sS]
  by_cases h4 : l < ml
  ·rw [if_pos (by simp [inB]; omega)] at hR
   subst hR
   refine tkV 5 23 (.bool true) hS ?_
   refine tk 6 24 hS ?_
   refine tkS 7 25 hS ?_
   refine tkS 8 26 hS ?_
   refine tkS 9 27 hS ?_
   refine tk 10 28 hS ?_
   refine tk 11 17 hS ?_
   refine wpAnyV_done (by kernel_rfl) ?_
   go_wp2
   go_ret
   exact ⟨rfl, HK3.out⟩
  ·by_cases h5 : 800 < l
   ·rw [if_pos (by simp [inB]; omega)] at hR
    subst hR
    refine tkV 5 23 (.bool false) hS ?_
    refine tk 6 24 hS ?_
    refine tk 7 25 hS ?_
    refine tk 8 26 hS ?_
    refine tkV 9 27 (.bool true) hS ?_
    refine tk 10 28 hS ?_
    refine tk 11 17 hS ?_
    refine wpAnyV_done (by kernel_rfl) ?_
    go_wp2
    go_ret
    exact ⟨rfl, HK3.out⟩
   ·rw [if_neg (by simp [inB]; omega)] at hR
    subst hR
    refine tkV 5 23 (.bool false) hS ?_
    refine tk 6 24 hS ?_
    refine tk 7 25 hS ?_
    refine tk 8 26 hS ?_
    refine tkV 9 27 (.bool false) hS ?_
    refine tk 10 28 hS ?_
    refine tk 11 17 hS ?_
    refine wpAnyV_done (by kernel_rfl) ?_
    go_wp2
    go_ret
    exact ⟨rfl, HK3.out⟩
end Go.Proofs.YtbilnlgjpchgiaaDoor
