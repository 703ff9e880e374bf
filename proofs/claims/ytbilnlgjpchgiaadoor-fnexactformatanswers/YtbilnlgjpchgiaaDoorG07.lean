import Derived.Test.YtbilnlgjpchgiaaDoorProg
import Derived.Test.YtbilnlgjpchgiaaDoorG02
import Derived.Test.YtbilnlgjpchgiaaDoorG00
import Derived.Test.YtbilnlgjpchgiaaDoorG01
import Derived.Test.YtbilnlgjpchgiaaDoorG06
import Derived.Test.YtbilnlgjpchgiaaDoorG05
import Derived.Test.YtbilnlgjpchgiaaDoorRows
import Derived.Shelf.Strconv.Itoa4
import Derived.Shelf.Strings.OnBuilder
import Derived.Shelf.Strings.BuilderK
import Derived.Shelf.Strings.Fields
import Derived.Shelf.Strings.SplitShaped
import Derived.Ground.NamesProg
import Derived.Deep.DeepCutAuto
import Derived.Laws.ResultCell
import Derived.Stop.LaidTwo
import Derived.LaidLaws
import Derived.LaidHandle
import Derived.ChangeVars
import Derived.LaidMore
import Derived.OpenVars
import Derived.Lib.LaidTab
import Derived.WalkKit
import Derived.ProofKit
import Derived.OpenShut
import Derived.ShutString
import Derived.ChangeOld
import Derived.Below
import Derived.Lib.SmallJoins
import Derived.Deep.Slices
import Derived.Deep.CutBlock
namespace Go.Proofs.YtbilnlgjpchgiaaDoor
set_option maxRecDepth 100000
set_option maxHeartbeats 8000000
set_option linter.unusedVariables false
set_option linter.unusedSimpArgs false
open Go.Shelf Go.RowKit Go.ChangeShapes Go.WideShapes Go.ChangeAt
def Tryd.layInt_ren : Go.Shelf.Ren := ⟨fun | 173 => 75 | 246 => 92 | 283 => 101 | 284 => 102 | 285 => 103 | 286 => 104 | 129 => 110 | 317 => 109 | 318 => 111 | 319 => 112 | 320 => 113 | 337 => 114 | 338 => 115 | n => n, fun | 2 => 2 | 3 => 3 | 9 => 9 | 4 => 4 | 171 => 166 | 0 => 0 | 53 => 167 | 37 => 34 | 5 => 5 | 173 => 170 | 212 => 187 | 51 => 159 | 20 => 20 | 213 => 188 | 46 => 151 | 232 => 194 | 233 => 195 | n => n, fun | 17 => 3 | 18 => 5 | 19 => 6 | n => n⟩
theorem Tryd.layInt : Go.Proofs.LaysM.n173 Tryd.prog Tryd.layInt_ren := {
 mixed := by kernel_rfl
 f129 := Tryd.func110.trans (congrArg some (by kernel_rfl))
 f173 := Tryd.func75.trans (congrArg some (by kernel_rfl))
 f246 := Tryd.func92.trans (congrArg some (by kernel_rfl))
 f283 := Tryd.func101.trans (congrArg some (by kernel_rfl))
 f284 := Tryd.func102.trans (congrArg some (by kernel_rfl))
 f285 := Tryd.func103.trans (congrArg some (by kernel_rfl))
 f286 := Tryd.func104.trans (congrArg some (by kernel_rfl))
 f317 := Tryd.func109.trans (congrArg some (by kernel_rfl))
 f318 := Tryd.func111.trans (congrArg some (by kernel_rfl))
 f319 := Tryd.func112.trans (congrArg some (by kernel_rfl))
 f320 := Tryd.func113.trans (congrArg some (by kernel_rfl))
 f337 := Tryd.func114.trans (congrArg some (by kernel_rfl))
 f338 := Tryd.func115.trans (congrArg some (by kernel_rfl))
 t0 := Tryd.underlying0
 a0 := Tryd.isAgg0
 z0 := Tryd.sizeOf0
 v0 := Tryd.zeroValue0
 t2 := Tryd.underlying2
 a2 := Tryd.isAgg2
 z2 := Tryd.sizeOf2
 v2 := Tryd.zeroValue2
 t3 := Tryd.underlying3
 a3 := Tryd.isAgg3
 z3 := Tryd.sizeOf3
 v3 := Tryd.zeroValue3
 t4 := Tryd.underlying4
 a4 := Tryd.isAgg4
 z4 := Tryd.sizeOf4
 v4 := Tryd.zeroValue4
 t5 := Tryd.underlying5
 a5 := Tryd.isAgg5
 z5 := Tryd.sizeOf5
 v5 := Tryd.zeroValue5
 t9 := Tryd.underlying9
 a9 := Tryd.isAgg9
 z9 := Tryd.sizeOf9
 v9 := Tryd.zeroValue9
 t20 := Tryd.underlying20
 a20 := Tryd.isAgg20
 z20 := Tryd.sizeOf20
 v20 := Tryd.zeroValue20
 t37 := Tryd.underlying34
 a37 := Tryd.isAgg34
 z37 := Tryd.sizeOf34
 v37 := Tryd.zeroValue34
 t46 := Tryd.underlying151
 a46 := Tryd.isAgg151
 z46 := Tryd.sizeOf151
 v46 := Tryd.zeroValue151
 t51 := Tryd.underlying159
 a51 := Tryd.isAgg159
 z51 := Tryd.sizeOf159
 v51 := Tryd.zeroValue159
 t53 := Tryd.underlying167
 a53 := Tryd.isAgg167
 z53 := Tryd.sizeOf167
 v53 := Tryd.zeroValue167
 t171 := Tryd.underlying166
 a171 := Tryd.isAgg166
 z171 := Tryd.sizeOf166
 v171 := Tryd.zeroValue166
 t173 := Tryd.underlying170
 a173 := Tryd.isAgg170
 z173 := Tryd.sizeOf170
 v173 := Tryd.zeroValue170
 t212 := Tryd.underlying187
 a212 := Tryd.isAgg187
 z212 := Tryd.sizeOf187
 v212 := Tryd.zeroValue187
 t213 := Tryd.underlying188
 a213 := Tryd.isAgg188
 z213 := Tryd.sizeOf188
 t232 := Tryd.underlying194
 a232 := Tryd.isAgg194
 z232 := Tryd.sizeOf194
 v232 := Tryd.zeroValue194
 t233 := Tryd.underlying195
 a233 := Tryd.isAgg195
 z233 := Tryd.sizeOf195
 v233 := Tryd.zeroValue195
 g17 := by kernel_rfl
 g18 := by kernel_rfl
 g19 := by kernel_rfl
 i0 := by kernel_rfl
 i2 := by kernel_rfl
 i3 := by kernel_rfl
 i4 := by kernel_rfl
 i5 := by kernel_rfl
 i9 := by kernel_rfl
 i20 := by kernel_rfl
 i37 := by kernel_rfl
 i46 := by kernel_rfl
 i51 := by kernel_rfl
 i53 := by kernel_rfl
 i171 := by kernel_rfl
 i173 := by kernel_rfl
 i212 := by kernel_rfl
 i232 := by kernel_rfl
 i233 := by kernel_rfl
 m17 := by kernel_rfl
 m18 := by kernel_rfl
 m19 := by kernel_rfl }
def Tryd.layJoin_ren : Go.Shelf.Ren := ⟨fun | 156 => 74 | 165 => 91 | 166 => 26 | 169 => 29 | 240 => 64 | 241 => 100 | 276 => 83 | 277 => 108 | n => n, fun | 31 => 110 | 9 => 9 | 3 => 3 | 4 => 4 | 0 => 0 | 20 => 20 | 72 => 70 | 76 => 73 | 70 => 68 | 37 => 34 | 75 => 72 | 127 => 114 | 164 => 138 | 5 => 5 | 80 => 76 | n => n, fun | n => n⟩
theorem Tryd.layJoin : Go.Proofs.Lays.n156 Tryd.prog Tryd.layJoin_ren := {
 mixed := by kernel_rfl
 f156 := Tryd.func74.trans (congrArg some (by kernel_rfl))
 f165 := Tryd.func91.trans (congrArg some (by kernel_rfl))
 f166 := Tryd.func26.trans (congrArg some (by kernel_rfl))
 f169 := Tryd.func29.trans (congrArg some (by kernel_rfl))
 f240 := Tryd.func64.trans (congrArg some (by kernel_rfl))
 f241 := Tryd.func100.trans (congrArg some (by kernel_rfl))
 f276 := Tryd.func83.trans (congrArg some (by kernel_rfl))
 f277 := Tryd.func108.trans (congrArg some (by kernel_rfl))
 t0 := Tryd.underlying0
 a0 := Tryd.isAgg0
 z0 := Tryd.sizeOf0
 v0 := Tryd.zeroValue0
 t3 := Tryd.underlying3
 a3 := Tryd.isAgg3
 z3 := Tryd.sizeOf3
 v3 := Tryd.zeroValue3
 t4 := Tryd.underlying4
 a4 := Tryd.isAgg4
 z4 := Tryd.sizeOf4
 v4 := Tryd.zeroValue4
 t9 := Tryd.underlying9
 a9 := Tryd.isAgg9
 z9 := Tryd.sizeOf9
 v9 := Tryd.zeroValue9
 t20 := Tryd.underlying20
 a20 := Tryd.isAgg20
 z20 := Tryd.sizeOf20
 v20 := Tryd.zeroValue20
 t31 := Tryd.underlying110
 a31 := Tryd.isAgg110
 z31 := Tryd.sizeOf110
 v31 := Tryd.zeroValue110
 t37 := Tryd.underlying34
 a37 := Tryd.isAgg34
 z37 := Tryd.sizeOf34
 v37 := Tryd.zeroValue34
 t70 := Tryd.underlying68
 a70 := Tryd.isAgg68
 z70 := Tryd.sizeOf68
 v70 := Tryd.zeroValue68
 t72 := Tryd.underlying70
 a72 := Tryd.isAgg70
 z72 := Tryd.sizeOf70
 v72 := Tryd.zeroValue70
 t75 := Tryd.underlying72
 a75 := Tryd.isAgg72
 z75 := Tryd.sizeOf72
 v75 := Tryd.zeroValue72
 t76 := Tryd.underlying73
 a76 := Tryd.isAgg73
 z76 := Tryd.sizeOf73
 v76 := Tryd.zeroValue73
 t127 := Tryd.underlying114
 a127 := Tryd.isAgg114
 z127 := Tryd.sizeOf114
 v127 := Tryd.zeroValue114
 t164 := Tryd.underlying138
 a164 := Tryd.isAgg138
 z164 := Tryd.sizeOf138
 v164 := Tryd.zeroValue138 }
def Tryd.layStr_ren : Go.Shelf.Ren := ⟨fun | 169 => 29 | n => n, fun | 70 => 68 | 9 => 9 | 0 => 0 | 72 => 70 | 37 => 34 | 127 => 114 | 3 => 3 | 5 => 5 | n => n, fun | n => n⟩
theorem Tryd.layStr : Go.Proofs.Lays.n169 Tryd.prog Tryd.layStr_ren := {
 mixed := by kernel_rfl
 f169 := Tryd.func29.trans (congrArg some (by kernel_rfl))
 t0 := Tryd.underlying0
 a0 := Tryd.isAgg0
 z0 := Tryd.sizeOf0
 v0 := Tryd.zeroValue0
 t3 := Tryd.underlying3
 a3 := Tryd.isAgg3
 z3 := Tryd.sizeOf3
 v3 := Tryd.zeroValue3
 t9 := Tryd.underlying9
 a9 := Tryd.isAgg9
 z9 := Tryd.sizeOf9
 v9 := Tryd.zeroValue9
 t37 := Tryd.underlying34
 a37 := Tryd.isAgg34
 z37 := Tryd.sizeOf34
 v37 := Tryd.zeroValue34
 t70 := Tryd.underlying68
 a70 := Tryd.isAgg68
 z70 := Tryd.sizeOf68
 v70 := Tryd.zeroValue68
 t72 := Tryd.underlying70
 a72 := Tryd.isAgg70
 z72 := Tryd.sizeOf70
 v72 := Tryd.zeroValue70
 t127 := Tryd.underlying114
 a127 := Tryd.isAgg114
 z127 := Tryd.sizeOf114
 v127 := Tryd.zeroValue114 }
theorem Tryd.layWrite : Go.Proofs.Lays.n166 Tryd.prog Tryd.layJoin_ren := { Tryd.layJoin with }
theorem Tryd.extraJ : Builder.Extra Tryd.prog Tryd.layJoin_ren := {
 sizeBuilder := by kernel_rfl
 liesBuilder := by kernel_rfl
 t5 := Tryd.underlying5
 a5 := Tryd.isAgg5
 z5 := Tryd.sizeOf5
 v5 := Tryd.zeroValue5
 infoByte := by kernel_rfl
 cellsByte := by kernel_rfl
 sizeByte := by kernel_rfl
 neB5 := by decide }
theorem Tryd.extraS : Builder.Extra Tryd.prog Tryd.layStr_ren := {
 sizeBuilder := by kernel_rfl
 liesBuilder := by kernel_rfl
 t5 := Tryd.underlying5
 a5 := Tryd.isAgg5
 z5 := Tryd.sizeOf5
 v5 := Tryd.zeroValue5
 infoByte := by kernel_rfl
 cellsByte := by kernel_rfl
 sizeByte := by kernel_rfl
 neB5 := by decide }
def frmS (k : Nat) : List UInt8 :=
 if k = 1 then [98, 101, 103, 105, 110] else if k = 2 then [105, 110, 115, 101, 114, 116, 32, 116, 120, 110, 32, 100, 97, 116, 97] else if k = 3 then [117, 112, 100, 97, 116, 101, 32, 116, 120, 110, 32, 105, 100, 32, 100, 97, 116, 97] else if k = 4 then [100, 101, 108, 101, 116, 101, 32, 116, 120, 110, 32, 105, 100] else if k = 5 then [114, 101, 97, 100, 32, 116, 120, 110, 32, 105, 100] else if k = 6 then [99, 111, 109, 109, 105, 116, 32, 116, 120, 110] else if k = 7 then [97, 98, 111, 114, 116, 32, 116, 120, 110] else if k = 8 then [99, 104, 101, 99, 107, 112, 111, 105, 110, 116] else if k = 9 then [114, 101, 115, 116, 97, 114, 116] else if k = 10 then [99, 114, 97, 115, 104, 32, 107, 101, 101, 112] else if k = 11 then [99, 117, 116, 32, 99, 111, 117, 110, 116] else []
structure Tabs (w : World) : Prop where
 pow : Lib.TabIs Tryd.prog w "internal/strconv.uint64pow10" .u64 Lib.pow10Tab
 spc : Lib.TabIs Tryd.prog w "strings.asciiSpace" .u8 Lib.asciiSpaceTab
 frm : ∀ k, k < 12 → w.cell? ⟨0, k, none⟩ = some (.string (Tx (frmS k)))
theorem var_sameT {W W' : World} {n : String} {cs : Array Value} (hk : Same W W') (h : W.var? Tryd.prog n = some cs) : W'.var? Tryd.prog n = some cs := by
 unfold World.var? at h ⊢
 cases hg : Tryd.prog.globalNamed n with
 | none => simp [hg] at h
 | some g =>
  simp only [hg, Option.bind_some] at h ⊢
  cases ho : W.heap[g]? with
  | none => simp [ho] at h
  | some ob => rw [hk.heap ho id]; rw [ho] at h; exact h
theorem Tabs.same {w w' : World} (h : Tabs w) (hk : Same w w') : Tabs w' := ⟨var_sameT hk h.pow, var_sameT hk h.spc, fun k hj => hk.cellOf (h.frm k hj) id⟩
theorem grow_same (w : World) (k : Nat) (os : Array Obj) : Same w (Sort.grow (w.drewN k) os) :=
 ⟨rfl, rfl, rfl, by simp [Sort.grow], fun j hj _ => by simp only [Sort.grow]; exact Array.getElem?_append_left hj⟩
theorem lineI_any (bk o c : Nat) (xs : List (List UInt8)) (w : World) (hc : ∀ (j : Nat) x, xs[j]? = some x → w.cell? ⟨bk, o + j, none⟩ = some (.string (Tx x))) (hbk : bk < w.heap.size) (hN : xs.length ≤ 1048576) (hcap : xs.length ≤ c) (hlen : (Lib.join xs [32]).length ≤ 1099511627776) :
  Calls Tryd.prog 42 #[.slice (some ⟨bk, o, none⟩) xs.length c] w fun e w' => e = .returned (.string (Tx (Lib.join xs [32] ++ [10]))) ∧ Same w w' := by
 have hmm : (xs.map Tx).map (·.data.toList) = xs := by
  rw [List.map_map]
  have : ((fun x : ByteArray => x.data.toList) ∘ Tx) = id := by funext l; simp [Tx]
  rw [this, List.map_id]
 have kj : Calls Tryd.prog 74 #[.slice (some ⟨bk, o, none⟩) xs.length c, .string ⟨#[32]⟩] w fun e w' => e = .returned (.string (Tx (Lib.join xs [32]))) ∧ Same w w' := by
  have h := Any.strings_Join Tryd.layJoin Tryd.extraJ bk o c (xs.map Tx) ⟨#[32]⟩ w (fun j x hx => by
   rw [List.getElem?_map, Option.map_eq_some_iff] at hx
   obtain ⟨y, hy, rfl⟩ := hx
   exact hc j y hy) hbk (by rw [List.length_map]; omega) (by rw [List.length_map]; exact hcap) (by rw [hmm]; exact Nat.le_trans hlen (by decide))
  rw [hmm, List.length_map] at h
  exact h.mono (fun e w' ⟨he, hw⟩ => ⟨he, Kept.of_below hw⟩)
 have HE := (show Hid (Tx (Lib.join xs [32]) ++ (⟨#[10]⟩ : ByteArray) = Tx (Lib.join xs [32] ++ [10])) from tx_app _ [10])
 obtain ⟨T, hT⟩ : ∃ T, Lib.join xs [32] = T := ⟨_, rfl⟩
 rw [hT] at kj HE hlen ⊢
 have z : ¬ 9223372036854775807 < T.length + 1 := by omega
 clear hT hc hmm
 go_enter Tryd.func42, Tryd.ntmps42
 go_wp2_with fail
 refine kj.mono ?_
 rintro e w1 ⟨rfl, hk1⟩
 have HK1 := hid hk1
 clear hk1
 go_wp2
 go_ret
 exact ⟨by rw [HE.out]; rfl, HK1.out⟩
abbrev lt0 : String × DataW Unit := ("math/bits.deBruijn32tab", Rows.laid_math_bits_deBruijn32tab)
abbrev lt1 : String × DataW Unit := ("math/bits.deBruijn64tab", Rows.laid_math_bits_deBruijn64tab)
abbrev lt2 : String × DataW Unit := ("internal/strconv.uint64pow10", Rows.laid_internal_strconv_uint64pow10)
theorem gnPow : Tryd.prog.globalNamed lt2.1 = some 3 := by kernel_rfl
theorem powData : Rows.laid_internal_strconv_uint64pow10 (H := Unit) = Lib.tabData .u64 Lib.pow10Tab := by kernel_rfl
section
variable {H : Type} {enc : TypeId × Value → H} {w : World} {base : Nat} {spare : Nat → Bool} {held : Bool}
end
abbrev T3 := Int × Int × Int
theorem RdF.some {m : Nat} {w : World} {x : FR} (h : RdF m w x) (h0 : 0 < x.n) : ∃ b off, x.a = some ⟨b, off, none⟩ ∧ x.n ≤ x.c := by
 rcases h.2.2 with h1 | ⟨b, off, he, hle, _⟩
 ·omega
 ·exact ⟨b, off, he, hle⟩
theorem Rd.at {w : World} {a : Option Addr} {n c : Nat} {zs : List Int} (h : Rd .i64 w (.slice a n c) zs) {k : Nat} (hk : k < zs.length) : ∃ b off, a = some ⟨b, off, none⟩ ∧ w.cell? ⟨b, off + k, none⟩ = some (.int .i64 (zs.getD k 0)) := by
 rcases h.2 with ⟨hnil, _⟩ | ⟨b, off, c', h, _, hc⟩
 ·rw [hnil] at hk; simp at hk
 ·cases h; exact ⟨b, off, rfl, hc k hk⟩
def Bld (w : World) (b : Nat) (l : List UInt8) : Prop := Lib.IsBuilderF 70 5 b b (Lib.byteCells l) w
theorem Bld.new (w : World) : Bld (w.alloc (.cells #[.pointer none, .slice none 0 0] 70)) w.heap.size [] := Lib.IsBuilderF.of (Lib.fresh_isBuilder _ _ w)
theorem Bld.same {w w' : World} {b : Nat} {l : List UInt8} (h : Bld w b l) (hk : Same w w') : Bld w' b l := by
 have one : ∀ p, Lib.BuilderAtF 70 5 b b p (Lib.byteCells l) w → Lib.BuilderAtF 70 5 b b p (Lib.byteCells l) w' := fun p h => by
  have hlt := h.lt
  obtain ⟨hB, v, hv, hown, hne⟩ := h
  exact ⟨hB, v, hk.heap hv id, hown.kept (row := none) ⟨hk.os, hk.tape, hk.output, hk.size, fun k hk2 _ => hk.block k hk2 id⟩ (Classical.em _), hne⟩
 exact h.elim (fun x => .inl (one _ x)) (fun x => .inr (one _ x))
theorem Bld.lt {w : World} {b : Nat} {l : List UInt8} (h : Bld w b l) : b < w.heap.size := h.elim (fun x => x.lt) (fun x => x.lt)
theorem kept_from {w w' : World} {b : Nat} (h : Below b w w') : Kept (fun k => b ≤ k) w w' := ⟨h.os, h.tape, h.output, h.size, fun k _ hr => h.block k (by omega)⟩
theorem writeB_any (b : Nat) (l m : List UInt8) (w : World) (h : Bld w b l) (hl : l.length + m.length ≤ 1099511627776) :
  Calls Tryd.prog 26 #[.pointer (some ⟨b, 0, none⟩), .string (Tx m)] w fun e w' => e = .returned (.tuple #[.int .i64 (m.length : Int), .nilIface]) ∧ Bld w' b (l ++ m) ∧ Kept (fun k => b ≤ k) w w' := by
 have e := Any.Builder_WriteString_f Tryd.layWrite Tryd.extraJ b b (Lib.byteCells l) (Tx m) w h (by rw [tx_size]; simp [Lib.byteCells]; omega) (Nat.le_of_lt h.lt)
 refine e.mono ?_
 rintro e w' ⟨rfl, h2, h3⟩
 refine ⟨by rw [tx_size], .inr ?_, kept_from h3⟩
 have e2 : Lib.byteCells l ++ Lib.strCells (Tx m) = Lib.byteCells (l ++ m) := by simp [Lib.byteCells, Lib.strCells, Tx]
 rw [← e2]
 exact h2
theorem strB_any (b : Nat) (l : List UInt8) (w : World) (h : Bld w b l) :
  Calls Tryd.prog 29 #[.pointer (some ⟨b, 0, none⟩)] w fun e w' => e = .returned (.string (Tx l)) ∧ Kept (fun k => b ≤ k) w w' :=
 (Any.Builder_String_any_f Tryd.layStr Tryd.extraS b b l w h (Nat.le_of_lt h.lt)).mono (fun e w' ⟨he, _, h3⟩ => ⟨he, kept_from h3⟩)
theorem same_from {w w1 w2 : World} {b : Nat} (h : Same w w1) (h2 : Kept (fun k => b ≤ k) w1 w2) (hb : w.heap.size ≤ b) : Same w w2 := h.next h2 (fun i hi e => by omega)
abbrev TabP (w : World) : Prop := Lib.TabIs Tryd.prog w "internal/strconv.uint64pow10" .u64 Lib.pow10Tab
theorem tabP_same {w w' : World} (h : TabP w) (hk : Same w w') : TabP w' := var_sameT hk h
theorem numP_any (n : Int) (h : IsI' n) (w : World) (ht : TabP w) : Calls Tryd.prog 43 #[.int .i64 n] w fun e w' => e = .returned (.string (Tx (Lib.itoa n))) ∧ Same w w' := by
 have kf : Calls Tryd.prog 75 #[.int .i64 n, .int .i64 10] w fun e w' => e = .returned (.string (Tx (Lib.itoa n))) ∧ Same w w' := (Any.strconv_FormatInt_10 Tryd.layInt n h.1 h.2 w ht).mono (fun e w' ⟨he, k, os, hw⟩ => ⟨he, hw ▸ grow_same w k os⟩)
 go_enter Tryd.func43, Tryd.ntmps43
 go_wp2_with fail
 refine kf.mono ?_
 rintro e w1 ⟨rfl, hk1⟩
 have HK1 := hid hk1
 clear hk1
 go_wp2
 go_ret
 exact ⟨rfl, HK1.out⟩
theorem Tryd.infoStr : (Tryd.prog.info? 9).map (fun i => (i.zero, i.size, i.bytes)) = some (some (.string ByteArray.empty), 1, 16) := by kernel_rfl
def wcs (xs : List (List UInt8)) : List Value := xs.map fun l => Value.string (Tx l)
theorem wcs_one (xs : List (List UInt8)) : ∀ u ∈ wcs xs, u.oneCell' = true := fun u hu => by
 obtain ⟨l, _, rfl⟩ := List.mem_map.1 hu
 rfl
def OwnS (w : World) (v : Value) (xs : List (List UInt8)) : Prop := w.ownsRow 0 9 1 v xs.length (wcs xs)
theorem OwnS.of_blk {w : World} {g : Nat} {xs : List (List UInt8)} (h : Blk w g 9 (wcs xs)) (hm : xs.length ≤ maxLen) : OwnS w (.slice (some ⟨g, 0, none⟩) xs.length xs.length) xs :=
 ⟨by simp [wcs], .inr ⟨g, xs.length, (wcs xs).toArray, rfl, Nat.zero_le _, h, Nat.le_refl _, hm, by simp [wcs], by simp only [Nat.mul_one]; exact List.take_of_length_le (by simp [wcs])⟩⟩
theorem OwnS.kept {R : Nat → Prop} {w w' : World} {v : Value} {xs : List (List UInt8)} (h : OwnS w v xs) (hk : Kept R w w') (hr : ∀ b, v.ownBlock = some b → ¬ R b) : OwnS w' v xs := hk.owns h hr
theorem OwnS.same {w w' : World} {v : Value} {xs : List (List UInt8)} (h : OwnS w v xs) (hk : Same w w') : OwnS w' v xs := h.kept hk (fun _ _ => id)
theorem OwnS.form {w : World} {v : Value} {xs : List (List UInt8)} (h : OwnS w v xs) (h0 : 0 < xs.length) : ∃ g c, v = .slice (some ⟨g, 0, none⟩) xs.length c ∧ xs.length ≤ c ∧ g < w.heap.size ∧ ∀ j x, xs[j]? = some x → w.cell? ⟨g, 0 + j, none⟩ = some (.string (Tx x)) := by
 rcases h.2 with ⟨_, h2⟩ | ⟨g, cap, cur, rfl, _, hg, hc, hm, _, ht⟩
 ·omega
 ·refine ⟨g, cap, rfl, hc, (Array.getElem?_eq_some_iff.1 hg).1, fun j x hx => ?_⟩
  have hj : j < xs.length := (List.getElem?_eq_some_iff.1 hx).1
  have e : (cur.toList.take (xs.length * 1))[j]? = (wcs xs)[j]? := by rw [ht]
  rw [List.getElem?_take_of_lt (by omega)] at e
  simp only [World.cell?, hg, Nat.zero_add]
  rw [← Array.getElem?_toList, e]
  simp [wcs, hx]
theorem run_appW {ty : TypeId} {w : World} {v : Value} {B c : Nat} {xs ys : List (List UInt8)} (ho : OwnS w v xs) (hb : Blk w B 9 (wcs ys)) (hl : xs.length + ys.length ≤ 1073741824) :
  ∃ a n c' w', (Builtin.append_ #[110, 110] ty #[v, .slice (some ⟨B, 0, none⟩) ys.length c]).run Tryd.prog w = .ok (.slice a n c') w' ∧ OwnS w' (.slice a n c') (xs ++ ys) ∧ Grew w v w' (.slice a n c') := by
 obtain ⟨i0, hi, hz0, hz1, hz2⟩ := info_parts Tryd.infoStr
 obtain ⟨v', w', hr, h2, h3, _, h5⟩ := run_append_own_at (P := Tryd.prog) w 0 110 ty 9 i0 (.string ByteArray.empty) 1 16 Tryd.underlying110 hi hz0 hz1 hz2 rfl (by decide) v xs.length (wcs xs) ho ⟨B, 0, none⟩ ys.length c (wcs ys) (by simp [wcs]) (fun j u hu => by
  rw [show (⟨B, 0, none⟩ : Addr).add j = ⟨B, j, none⟩ from by simp [Addr.add_lit], hb.cell]; exact hu) (wcs_one ys) (by unfold maxLen; omega) (by omega) (Nat.zero_le _)
 have h2' : OwnS w' v' (xs ++ ys) := by unfold OwnS; rw [List.length_append]; simpa [wcs] using h2
 obtain ⟨a, n, c', rfl⟩ : ∃ a n c', v' = .slice a n c' := by
  rcases h2'.2 with ⟨e, _⟩ | ⟨g, cap, cur, e, _⟩ <;> exact ⟨_, _, _, e⟩
 refine ⟨a, n, c', w', hr, h2', Kept.of_grown h3 (fun k e => e), fun b hb => ?_⟩
 rcases h5 with h5 | h5
 ·exact .inl (by rw [← h5]; exact hb)
 ·rw [h5] at hb
  exact .inr (by have := Option.some.inj hb; omega)
theorem wpList_appW {w : World} {ops : Array Oper} {rest : List Oper} {o : Oper} {a : Act} {Q : Exit → Act → World → Prop} (hgd : o.guard = none) (s x : Operand)
  (ho : o.op = .call { callee := .builtin .append, args := #[s, x], argTypes := #[110, 110] })
  (v : Value) (B c m : Nat) (xs ys : List (List UInt8)) (hs : a.eval s = v) (hx : a.eval x = .slice (some ⟨B, 0, none⟩) m c) (hm : m = ys.length) (hown : OwnS w v xs) (hb : Blk w B 9 (wcs ys)) (hl : xs.length + ys.length ≤ 1073741824)
  (h : ∀ a' n' c' w', OwnS w' (.slice a' n' c') (xs ++ ys) → Grew w v w' (.slice a' n' c') → wpList Tryd.prog ops Q rest (a.put o.dst (.slice a' n' c')) w') : wpList Tryd.prog ops Q (o :: rest) a w := by
 subst hm
 obtain ⟨a', n', c', w', hr, h2, h3⟩ := run_appW (ty := o.type) (c := c) hown hb hl
 refine wpList_plain hgd fun _ hK => ?_
 unfold Oper.wp execOp
 simp only [ho, resolve, invoke, builtin, Sem.run_bind, Sem.run_pure, Result.andThen_ok, List.map_toArray, List.map_cons, List.map_nil, hs, hx, hr]
 exact hK _ _ (h a' n' c' w' h2 h3)
theorem step_appW {w : World} {ops : Array Oper} {o : Oper} {a : Act} {K : Act → World → Prop} {Q : Exit → Act → World → Prop} {E : Prop} (hgd : o.guard = none) (s x : Operand)
  (ho : o.op = .call { callee := .builtin .append, args := #[s, x], argTypes := #[110, 110] })
  (v : Value) (B c m : Nat) (xs ys : List (List UInt8)) (hs : a.eval s = v) (hx : a.eval x = .slice (some ⟨B, 0, none⟩) m c) (hm : m = ys.length) (hown : OwnS w v xs) (hb : Blk w B 9 (wcs ys)) (hl : xs.length + ys.length ≤ 1073741824)
  (h : ∀ a' n' c' w', OwnS w' (.slice a' n' c') (xs ++ ys) → Grew w v w' (.slice a' n' c') → K (a.put o.dst (.slice a' n' c')) w') :
  if Region.wanted o (yielded ops a.tmps) = true then Oper.wp Tryd.prog o a w K Q else E := by
 subst hm
 have hw : Region.wanted o (yielded ops a.tmps) = true := by simp [Region.wanted, hgd]
 rw [if_pos hw]
 obtain ⟨a', n', c', w', hr, h2, h3⟩ := run_appW (ty := o.type) (c := c) hown hb hl
 unfold Oper.wp execOp
 simp only [ho, resolve, invoke, builtin, Sem.run_bind, Sem.run_pure, Result.andThen_ok, List.map_toArray, List.map_cons, List.map_nil, hs, hx, hr]
 exact h a' n' c' w' h2 h3
theorem lineW_any (bk o c : Nat) (xs : List (List UInt8)) (w : World) (hc : ∀ (j : Nat) x, xs[j]? = some x → w.cell? ⟨bk, o + j, none⟩ = some (.string (Tx x))) (hbk : bk < w.heap.size) (hN : xs.length ≤ 1073741824) (hcap : xs.length ≤ c) (hlen : (Lib.join xs [32]).length ≤ 1099511627776) :
  Calls Tryd.prog 42 #[.slice (some ⟨bk, o, none⟩) xs.length c] w fun e w' => e = .returned (.string (Tx (Lib.join xs [32] ++ [10]))) ∧ Same w w' := by
 have hmm : (xs.map Tx).map (·.data.toList) = xs := by
  rw [List.map_map]
  have : ((fun x : ByteArray => x.data.toList) ∘ Tx) = id := by funext l; simp [Tx]
  rw [this, List.map_id]
 have kj : Calls Tryd.prog 74 #[.slice (some ⟨bk, o, none⟩) xs.length c, .string ⟨#[32]⟩] w fun e w' => e = .returned (.string (Tx (Lib.join xs [32]))) ∧ Same w w' := by
  have h := Any.strings_Join Tryd.layJoin Tryd.extraJ bk o c (xs.map Tx) ⟨#[32]⟩ w (fun j x hx => by
   rw [List.getElem?_map, Option.map_eq_some_iff] at hx
   obtain ⟨y, hy, rfl⟩ := hx
   exact hc j y hy) hbk (by rw [List.length_map]; omega) (by rw [List.length_map]; exact hcap) (by rw [hmm]; exact Nat.le_trans hlen (by decide))
  rw [hmm, List.length_map] at h
  exact h.mono (fun e w' ⟨he, hw⟩ => ⟨he, Kept.of_below hw⟩)
 have HE := (show Hid (Tx (Lib.join xs [32]) ++ (⟨#[10]⟩ : ByteArray) = Tx (Lib.join xs [32] ++ [10])) from tx_app _ [10])
 obtain ⟨T, hT⟩ : ∃ T, Lib.join xs [32] = T := ⟨_, rfl⟩
 rw [hT] at kj HE hlen ⊢
 have z : ¬ 9223372036854775807 < T.length + 1 := by omega
 clear hT hc hmm
 go_enter Tryd.func42, Tryd.ntmps42
 go_wp2_with fail
 refine kj.mono ?_
 rintro e w1 ⟨rfl, hk1⟩
 have HK1 := hid hk1
 clear hk1
 go_wp2
 go_ret
 exact ⟨by rw [HE.out]; rfl, HK1.out⟩
theorem answerI_any (x : EAn) (w : World) (hok : x.ok) (hz : x.szs ≤ 1048576) (hd : Rd .u8 w x.dv x.db) (hr : RdR kHeapRecord w x.rv x.rs) (ht : TabP w) :
  Calls Tryd.prog 44 #[.agg #[.int .i64 x.cd, .int .i64 x.tx, .int .i64 x.rid, x.dv, x.rv, .int .i64 x.us]] w fun e w' => e = .returned (.string (Tx (anL x.dat))) ∧ Same w w' := by
 have hal := anL_len x hok
 have HJL := (show Hid ((Lib.join (anW x.dat) [32]).length ≤ 1099511627776) from by
  have e := congrArg List.length (join_an x.dat)
  rw [List.length_append] at e
  unfold Hid
  omega)
 have HJ := hid (join_an x.dat)
 obtain ⟨cd, tx, rid, dv, db, rv, rs, us⟩ := x
 obtain ⟨o0, o1, o2, o3, o4, o5⟩ := hok
 dsimp only at o0 o1 o2 o3 o4 o5 hd hr ⊢
 simp only [EAn.szs] at hz
 obtain ⟨d1, d2, rfl⟩ := hd.form
 obtain ⟨e1, e2, rfl⟩ := hr.form
 have HN0 := (show Hid (∀ wx, Same w wx → Calls Tryd.prog 43 #[.int .i64 cd] wx fun e w' => e = .returned (.string (Tx (Lib.itoa cd))) ∧ Same wx w') from fun wx hk => numP_any cd o0 wx (tabP_same ht hk))
 have HN1 := (show Hid (∀ wx, Same w wx → Calls Tryd.prog 43 #[.int .i64 tx] wx fun e w' => e = .returned (.string (Tx (Lib.itoa tx))) ∧ Same wx w') from fun wx hk => numP_any tx o1 wx (tabP_same ht hk))
 have HN2 := (show Hid (∀ wx, Same w wx → Calls Tryd.prog 43 #[.int .i64 rid] wx fun e w' => e = .returned (.string (Tx (Lib.itoa rid))) ∧ Same wx w') from fun wx hk => numP_any rid o2 wx (tabP_same ht hk))
 have HN3 := (show Hid (∀ wx, Same w wx → Calls Tryd.prog 76 #[.slice d1 db.length d2] wx fun e w' => e = .returned (.string (Tx (hxW db))) ∧ Same wx w') from fun wx hk => implHex_any _ db wx o4 (by omega) (hd.same hk))
 have HN4 := (show Hid (∀ wx, Same w wx → Calls Tryd.prog 43 #[.int .i64 us] wx fun e w' => e = .returned (.string (Tx (Lib.itoa us))) ∧ Same wx w') from fun wx hk => numP_any us o3 wx (tabP_same ht hk))
 have HT := hid ht
 have HR := hid hr
 have HO5 := (show Hid (∀ r ∈ rs, IsI' r.id ∧ IsB r.bs) from o5)
 have HRS := (show Hid (∀ r ∈ rs, r.bs.length ≤ 1048576) from fun r hr => by have := sizeHeapRecordS_mem rs r hr; omega)
 have HCR := (show Hid (∀ j, (h : j < rs.length) → ∃ b off, e1 = some ⟨b, off, none⟩ ∧ ∀ i, i < 2 → w.cell? ⟨b, off + (j * 2 + i), none⟩ = (kHeapRecord.cells rs[j])[i]?) from fun j h => by
  rcases hr.row with ⟨e, a, c, e2⟩ | ⟨b, off, c, e2, hc⟩
  ·rw [e] at h; simp at h
  ·injection e2 with e2
   exact ⟨b, off, e2, fun i hi => hc j i h hi⟩)
 have hrl : rs.length ≤ 1048576 := by omega
 have HAW := (show Hid (anW (EAn.dat ⟨cd, tx, rid, .slice d1 db.length d2, db, .slice e1 rs.length e2, rs, us⟩) = [Lib.itoa cd, Lib.itoa tx, Lib.itoa rid, hxW db, Lib.itoa us] ++ (datHeapRecordS rs).flatMap fun r => [Lib.itoa r.1, hxW r.2]) from rfl)
 generalize hLN : anL (EAn.dat ⟨cd, tx, rid, .slice d1 db.length d2, db, .slice e1 rs.length e2, rs, us⟩) = LN at HJ
 have HLN := hid hLN
 generalize anW (EAn.dat ⟨cd, tx, rid, .slice d1 db.length d2, db, .slice e1 rs.length e2, rs, us⟩) = AW at HJ HJL HAW
 clear hLN hal hz hd hr o0 o1 o2 o3 o4 o5 ht
 have HK0 := hid (sameA w [.int .i64 cd, .int .i64 tx, .int .i64 rid, .slice d1 db.length d2, .slice e1 rs.length e2, .int .i64 us] 85)
 have HB0 := hid (Blk.newL w [.int .i64 cd, .int .i64 tx, .int .i64 rid, .slice d1 db.length d2, .slice e1 rs.length e2, .int .i64 us] 85)
 go_enter Tryd.func44, Tryd.ntmps44
 go_upto_region 1 with fail
 generalize w.alloc (.cells #[.int .i64 cd, .int .i64 tx, .int .i64 rid, .slice d1 db.length d2, .slice e1 rs.length e2, .int .i64 us] 85) = u0 at HK0 HB0 ⊢
 have HSS := (show Hid (∀ wx, Same u0 wx → wx.cell? ⟨w.heap.size, 0, none⟩ = some (.int .i64 cd) ∧ wx.cell? ⟨w.heap.size, 1, none⟩ = some (.int .i64 tx) ∧ wx.cell? ⟨w.heap.size, 2, none⟩ = some (.int .i64 rid) ∧ wx.cell? ⟨w.heap.size, 3, none⟩ = some (.slice d1 db.length d2) ∧ wx.cell? ⟨w.heap.size, 5, none⟩ = some (.int .i64 us)) from fun wx h => ⟨(HB0.out.same h).cell 0, (HB0.out.same h).cell 1, (HB0.out.same h).cell 2, (HB0.out.same h).cell 3, (HB0.out.same h).cell 5⟩)
 have HW0 := (show Hid (Same u0 u0.drew) from (Kept.refl _ _).drew)
 have hS := HSS.out _ HW0.out
 refine wp_region_V (fun wx : World => wx.cell? ⟨w.heap.size, 0, none⟩ = some (.int .i64 cd) ∧ wx.cell? ⟨w.heap.size, 1, none⟩ = some (.int .i64 tx) ∧ wx.cell? ⟨w.heap.size, 2, none⟩ = some (.int .i64 rid) ∧ wx.cell? ⟨w.heap.size, 3, none⟩ = some (.slice d1 db.length d2) ∧ wx.cell? ⟨w.heap.size, 5, none⟩ = some (.int .i64 us)) 99 17 rfl (by kernel_rfl) ?_
 generalize u0.drew = q0 at HW0 hS ⊢
 refine tk 0 6 hS ?_
 refine tk 1 7 hS ?_
 refine tk 3 9 hS ?_
 refine tk 4 10 hS ?_
 refine tk 6 12 hS ?_
 refine tk 7 13 hS ?_
 refine tk 9 15 hS ?_
 refine tk 10 16 hS ?_
 refine tk 12 18 hS ?_
 refine tk 13 19 hS ?_
 refine wpAnyV_one (i := 2) (by kernel_rfl) rfl (fun K hK => ?_)
 go_simp
 refine (HN0.out _ (HK0.out.trans HW0.out)).mono ?_
 rintro e q1 ⟨rfl, hk1⟩
 have HW1 := hid (HW0.out.trans hk1)
 have hS := HSS.out _ HW1.out
 refine hK.out _ _ (fun _ => hS) ?_
 clear hK K hk1
 try simp only [Act.put, sA, s0, sS]
 refine wpAnyV_one (i := 5) (by kernel_rfl) rfl (fun K hK => ?_)
 go_simp
 refine (HN1.out _ (HK0.out.trans HW1.out)).mono ?_
 rintro e q2 ⟨rfl, hk1⟩
 have HW2 := hid (HW1.out.trans hk1)
 have hS := HSS.out _ HW2.out
 refine hK.out _ _ (fun _ => hS) ?_
 clear hK K hk1
 try simp only [Act.put, sA, s0, sS]
 refine wpAnyV_one (i := 8) (by kernel_rfl) rfl (fun K hK => ?_)
 go_simp
 refine (HN2.out _ (HK0.out.trans HW2.out)).mono ?_
 rintro e q3 ⟨rfl, hk1⟩
 have HW3 := hid (HW2.out.trans hk1)
 have hS := HSS.out _ HW3.out
 refine hK.out _ _ (fun _ => hS) ?_
 clear hK K hk1
 try simp only [Act.put, sA, s0, sS]
 refine wpAnyV_one (i := 11) (by kernel_rfl) rfl (fun K hK => ?_)
 go_simp
 refine (HN3.out _ (HK0.out.trans HW3.out)).mono ?_
 rintro e q4 ⟨rfl, hk1⟩
 have HW4 := hid (HW3.out.trans hk1)
 have hS := HSS.out _ HW4.out
 refine hK.out _ _ (fun _ => hS) ?_
 clear hK K hk1
 try simp only [Act.put, sA, s0, sS]
 refine wpAnyV_one (i := 14) (by kernel_rfl) rfl (fun K hK => ?_)
 go_simp
 refine (HN4.out _ (HK0.out.trans HW4.out)).mono ?_
 rintro e q5 ⟨rfl, hk1⟩
 have HW5 := hid (HW4.out.trans hk1)
 have hS := HSS.out _ HW5.out
 refine hK.out _ _ (fun _ => hS) ?_
 clear hK K hk1
 try simp only [Act.put, sA, s0, sS]
 have HW6 := hid (HW5.out.alloc (.cells (wcs [Lib.itoa cd, Lib.itoa tx, Lib.itoa rid, hxW db, Lib.itoa us]).toArray 9))
 have HBW := hid (Blk.newL q5 (wcs [Lib.itoa cd, Lib.itoa tx, Lib.itoa rid, hxW db, Lib.itoa us]) 9)
 have hS6 := HSS.out _ HW6.out
 refine wpAnyV_one (i := 15) (by kernel_rfl) rfl (fun K hK => ?_)
 go_simp
 refine hK.out _ _ (fun _ => hS6) ?_
 clear hK K
 try simp only [Act.put, sA, s0, sS]
 refine tk 16 3 hS6 ?_
 refine wpAnyV_done (by kernel_rfl) ?_
 have HOW := (show Hid (OwnS (q5.alloc (.cells (wcs [Lib.itoa cd, Lib.itoa tx, Lib.itoa rid, hxW db, Lib.itoa us]).toArray 9)) (.slice (some ⟨q5.heap.size, 0, none⟩) 5 5) [Lib.itoa cd, Lib.itoa tx, Lib.itoa rid, hxW db, Lib.itoa us]) from OwnS.of_blk HBW.out (by unfold maxLen; simp))
 have HB6 := hid (HB0.out.same HW6.out)
 have HK6 := hid (HK0.out.trans HW6.out)
 have hq5 := (show w.heap.size < q5.heap.size from (HB0.out.same HW5.out).lt)
 clear hS hS6 HSS HBW HW0 HW1 HW2 HW3 HW4 HW5 HW6 HN0 HN1 HN2 HN3 HN4
 simp only [wcs, List.map_cons, List.map_nil] at HOW HB6 HK6
 generalize q5.alloc _ = q6 at HOW HB6 HK6 ⊢
 generalize q5.heap.size = G at HOW hq5 ⊢
 generalize hrn2 : rs.length = rl at hrl HB6 HR ⊢
 have HRN2 := hid hrn2
 clear hrn2
 have a4 := HB6.out.cell 4
 dsimp only [List.getElem?_cons_zero, List.getElem?_cons_succ] at a4
 go_wp2
 go_loopw [3, 5, 25] (fun o y i wx => ∃ (j : Nat) (a : Option Addr) (n c : Nat) (Xs : List (List UInt8)), j ≤ rl ∧ i = .int .i64 (j : Int) ∧ o = .slice a n c ∧ Hid (Xs = [Lib.itoa cd, Lib.itoa tx, Lib.itoa rid, hxW db, Lib.itoa us] ++ ((datHeapRecordS rs).take j).flatMap (fun r => [Lib.itoa r.1, hxW r.2]) ∧ Xs.length = 5 + 2 * j ∧ OwnS wx (.slice a n c) Xs ∧ (∀ b, (Value.slice a n c).ownBlock = some b → w.heap.size ≤ b) ∧ Same w wx)) (fun _ _ i _ => rl - (intOf i).toNat)
 case atStart => exact ⟨0, _, _, _, _, Nat.zero_le _, rfl, rfl, by simp, by simp, HOW.out, fun b hb => by simp [Value.ownBlock] at hb; omega, HK6.out⟩
 case round =>
  obtain ⟨j, a, n, c, Xs, hj, rfl, rfl, HI⟩ := hrel
  obtain ⟨hXe, hXl, hXo, hXf, hXk⟩ := HI.out
  by_cases hjl : j < rl
  ·have hjp : j < rs.length := by rw [HRN2.out]; exact hjl
   have hji : (j : Int) < (rl : Int) := by omega
   obtain ⟨b2, off2, rfl, hc2⟩ := HCR.out j hjp
   have hr1 := (show Rd .u8 w rs[j].v rs[j].bs from HR.out.data _ (List.getElem_mem hjp)).same hXk
   have hr2 := HRS.out _ (List.getElem_mem hjp)
   have hr3 := (HO5.out _ (List.getElem_mem hjp)).1
   have hr4 := (HO5.out _ (List.getElem_mem hjp)).2
   have HTK := (show Hid ((datHeapRecordS rs).take (j + 1) = (datHeapRecordS rs).take j ++ [rs[j].dat]) from by
    have h : j < (datHeapRecordS rs).length := by rw [datHeapRecordS_length]; exact hjp
    unfold Hid
    rw [List.take_succ_eq_append_getElem h]
    simp [datHeapRecordS])
   obtain ⟨r, hr⟩ : ∃ r, rs[j] = r := ⟨_, rfl⟩
   rw [hr] at hc2 hr1 hr2 hr3 hr4 HTK
   obtain ⟨v1, v2, ev⟩ := hr1.form
   have s0 : wr.cell? ⟨b2, off2 + j * 2, none⟩ = some (.int .i64 r.id) := hXk.cellOf (p := ⟨b2, off2 + j * 2, none⟩) (hc2 0 (by decide)) id
   have s1 : wr.cell? ⟨b2, off2 + j * 2 + 1, none⟩ = some (.slice v1 r.bs.length v2) := hXk.cellOf (p := ⟨b2, off2 + j * 2 + 1, none⟩) (by have h := hc2 1 (by decide); rw [← Nat.add_assoc] at h; exact h.trans (congrArg some ev)) id
   rw [ev] at hr1
   have HM0 := (show Hid (∀ wx, Same w wx → Calls Tryd.prog 43 #[.int .i64 r.id] wx fun e w' => e = .returned (.string (Tx (Lib.itoa r.id))) ∧ Same wx w') from fun wx hk => numP_any r.id hr3 wx (tabP_same HT.out hk))
   have HM1 := (show Hid (∀ wx, Same wr wx → Calls Tryd.prog 76 #[.slice v1 r.bs.length v2] wx fun e w' => e = .returned (.string (Tx (hxW r.bs))) ∧ Same wx w') from fun wx hk => implHex_any _ r.bs wx hr4 hr2 (hr1.same hk))
   have HXE := (show Hid (Xs ++ [Lib.itoa r.id, hxW r.bs] = [Lib.itoa cd, Lib.itoa tx, Lib.itoa rid, hxW db, Lib.itoa us] ++ ((datHeapRecordS rs).take (j + 1)).flatMap (fun r => [Lib.itoa r.1, hxW r.2])) from by unfold Hid; rw [HTK.out, List.flatMap_append, ← List.append_assoc, ← hXe]; simp [EHeapRecord.dat])
   have HXL := (show Hid (Xs.length = 5 + 2 * j) from hXl)
   have HS2 := hid (sameA wr [.int .i64 r.id, .slice v1 r.bs.length v2] 88)
   have HR2 := hid (Blk.newL wr [.int .i64 r.id, .slice v1 r.bs.length v2] 88)
   have HO2 := hid (hXo.same HS2.out)
   have HK2 := hid (hXk.trans HS2.out)
   have HXF := (show Hid (∀ b, (Value.slice a n c).ownBlock = some b → w.heap.size ≤ b ∧ b < wr.heap.size) from fun b hb => ⟨hXf b hb, (World.ownsRow.lt hXo b hb).2⟩)
   clear hXe hXl hXo hXf hXk hr hc2 ev hr1 hr3 hr4 HTK
   go_upto_region 5 with fail
   generalize wr.alloc (.cells #[.int .i64 r.id, .slice v1 r.bs.length v2] 88) = u1 at HS2 HR2 HO2 HK2 ⊢
   clear s0 s1
   generalize wr.heap.size = RB at HR2 HXF ⊢
   have HSS := (show Hid (∀ wx, Same u1 wx → wx.cell? ⟨RB, 0, none⟩ = some (.int .i64 r.id) ∧ wx.cell? ⟨RB, 1, none⟩ = some (.slice v1 r.bs.length v2)) from fun wx h => ⟨(HR2.out.same h).cell 0, (HR2.out.same h).cell 1⟩)
   have HW0 := (show Hid (Same u1 u1.drew) from (Kept.refl _ _).drew)
   have hS := HSS.out _ HW0.out
   refine wp_region_V (fun wx : World => wx.cell? ⟨RB, 0, none⟩ = some (.int .i64 r.id) ∧ wx.cell? ⟨RB, 1, none⟩ = some (.slice v1 r.bs.length v2)) 99 10 rfl (by kernel_rfl) ?_
   generalize u1.drew = q0 at HW0 hS ⊢
   refine tk 0 29 hS ?_
   refine tk 1 30 hS ?_
   refine tk 2 31 hS ?_
   refine tk 4 33 hS ?_
   refine tk 5 34 hS ?_
   refine wpAnyV_one (i := 3) (by kernel_rfl) rfl (fun K hK => ?_)
   go_simp
   refine (HM0.out _ (HK2.out.trans HW0.out)).mono ?_
   rintro e q1 ⟨rfl, hk1⟩
   have HW1 := hid (HW0.out.trans hk1)
   have hS := HSS.out _ HW1.out
   refine hK.out _ _ (fun _ => hS) ?_
   clear hK K hk1
   try simp only [Act.put, sA, s0, sS]
   refine wpAnyV_one (i := 6) (by kernel_rfl) rfl (fun K hK => ?_)
   go_simp
   refine (HM1.out _ (HS2.out.trans HW1.out)).mono ?_
   rintro e q2 ⟨rfl, hk1⟩
   have HW2 := hid (HW1.out.trans hk1)
   have hS := HSS.out _ HW2.out
   refine hK.out _ _ (fun _ => hS) ?_
   clear hK K hk1
   try simp only [Act.put, sA, s0, sS]
   have HW3 := hid (HW2.out.alloc (.cells (wcs [Lib.itoa r.id, hxW r.bs]).toArray 9))
   have HBY := hid (Blk.newL q2 (wcs [Lib.itoa r.id, hxW r.bs]) 9)
   have hS3 := HSS.out _ HW3.out
   refine wpAnyV_one (i := 7) (by kernel_rfl) rfl (fun K hK => ?_)
   go_simp
   refine hK.out _ _ (fun _ => hS3) ?_
   clear hK K hS
   try simp only [Act.put, sA, s0, sS]
   have HO3 := hid (HO2.out.same HW3.out)
   have HK3 := hid (HK2.out.trans HW3.out)
   have HR3 := hid (HR2.out.same HW3.out)
   refine wpAnyV_one (i := 8) (by kernel_rfl) rfl (fun K hK => ?_)
   refine step_appW (by rfl) (.tmp 29) (.tmp 36) (by rfl) (.slice a n c) q2.heap.size 2 2 Xs [Lib.itoa r.id, hxW r.bs] (by rfl) (by rfl) rfl HO3.out HBY.out (by have := HXL.out; simp; omega) ?_
   intro a3 n3 c3 q4 hown hgr
   have HO4 := hid hown
   have HF4 := (show Hid (∀ b, (Value.slice a3 n3 c3).ownBlock = some b → w.heap.size ≤ b) from fun b hb => by
    rcases hgr.own b hb with h | h
    ·exact (HXF.out b h).1
    ·exact Nat.le_trans HK3.out.size h)
   have HK4 := (show Hid (Same w q4) from HK3.out.next hgr.kept (fun i hi e => by have := (HXF.out i e).1; omega))
   have HR4 := hid (HR3.out.kept hgr.kept (fun e => by have := (HXF.out _ e).2; omega))
   have hS4 := (show q4.cell? ⟨RB, 0, none⟩ = some (.int .i64 r.id) ∧ q4.cell? ⟨RB, 1, none⟩ = some (.slice v1 r.bs.length v2) from ⟨HR4.out.cell 0, HR4.out.cell 1⟩)
   clear hown hgr
   refine hK.out _ _ (fun _ => hS4) ?_
   clear hK K hS3
   try simp only [Act.put, sA, s0, sS]
   refine tk 9 3 hS4 ?_
   refine wpAnyV_done (by kernel_rfl) ?_
   clear hS4 HSS
   go_wp2_with fail
   go_roundw
   case rel => exact ⟨j + 1, a3, n3, c3, Xs ++ [Lib.itoa r.id, hxW r.bs], by omega, by go_num, rfl, HXE.out, by have := HXL.out; simp; omega, HO4.out, HF4.out, HK4.out⟩
   case measure => simp [intOf]; omega
  ·have hji : ¬ (j : Int) < (rl : Int) := by omega
   have hXA : Xs = AW := by
    have h1 : j = rs.length := by have := HRN2.out; omega
    rw [hXe, h1, ← datHeapRecordS_length, List.take_length, ← HAW.out]
   obtain ⟨g, cp, eg, h1, h2, h3⟩ := hXo.form (by omega)
   have kl := lineW_any g 0 cp Xs wr h3 h2 (by omega) h1 (by rw [hXA]; exact HJL.out)
   rw [← eg, hXA, HJ.out] at kl
   have HXK := hid hXk
   clear hXe hXl hXo hXf hXk hXA eg h1 h2 h3
   go_wp2_with (first | (go_at_call 42; (with_reducible refine kl.mono ?_); rintro e w9 ⟨rfl, hk9⟩; have HK9 := hid (HXK.out.trans hk9); clear hk9 kl))
   go_ret
   exact ⟨by rw [← HLN.out]; rfl, HK9.out⟩
theorem stateI_true (fa fr : Int) (ka da pa la ha ra : Option Addr) (len kc dc pc ln lc hn hc rn rc : Nat) (dur : List Int) (ps : List PW) (re : TypeId) (rb : List Int) (w : World) (hfr : IsI' fr) (hrm : ∀ z ∈ rb, IsI' z) (hrd : RdF 1 w ⟨re, ra, rn, rc, rb⟩) (hn1 : rn ≤ 1048576) (ht : TabP w) :
  Calls Tryd.prog 45 #[.agg #[.int .i64 fa, .slice ka len kc, .slice da dur.length dc, .slice pa ps.length pc, .bool true, .slice la ln lc, .slice ha hn hc, .slice ra rn rc, .int .i64 fr]] w fun e w' => e = .returned (.string (Tx (stL true fr rb))) ∧ Same w w' := by
 have hrl : rb.length = rn := by have := hrd.2.1; dsimp only at this; omega
 have HRL := hid hrl
 have HRM := (show Hid (∀ j, (h : j < rb.length) → ∃ b off, ra = some ⟨b, off, none⟩ ∧ w.cell? ⟨b, off + j, none⟩ = some (.int .i64 rb[j])) from fun j h => by
  rcases hrd.2.2 with h0 | ⟨b, off, e, _, hc⟩
  ·dsimp only at h0; omega
  ·refine ⟨b, off, e, ?_⟩
   have h2 := hc j (by dsimp only; omega)
   dsimp only at h2
   rw [h2, List.getD_eq_getElem?_getD, List.getElem?_eq_getElem h]
   rfl)
 have HORM := (show Hid (∀ z ∈ rb, IsI' z) from hrm)
 have HT := hid ht
 have HJ := hid (join_st true fr rb)
 have HJL := (show Hid ((Lib.join (stW true fr rb) [32]).length ≤ 1099511627776) from by
  have key : ∀ qs : List Int, (∀ z ∈ qs, IsI' z) → (qs.flatMap rmT).length ≤ 22 * qs.length := fun qs => by
   induction qs with
   | nil => intro _; simp
   | cons q qs ih =>
    intro h
    have h1 := ih (fun x hx => h x (List.mem_cons_of_mem _ hx))
    have h2 := h q (List.mem_cons_self ..)
    have h3 := itoa_len q h2.1 h2.2
    rw [List.flatMap_cons, List.length_append]
    simp only [rmT, List.length_cons] at h1 ⊢
    omega
  have h1 := key rb hrm
  have h2 := itoa_len fr hfr.1 hfr.2
  have e := congrArg List.length (join_st true fr rb)
  rw [List.length_append] at e
  have h3 : (stL true fr rb).length = (upW true).length + 1 + (Lib.itoa fr).length + (rb.flatMap rmT).length + 1 := by unfold stL; simp only [List.length_append, List.length_cons, List.length_nil]
  have h4 : (upW true).length ≤ 4 := by decide
  unfold Hid
  omega)
 have HN0 := (show Hid (∀ wx, Same w wx → Calls Tryd.prog 43 #[.int .i64 fr] wx fun e w' => e = .returned (.string (Tx (Lib.itoa fr))) ∧ Same wx w') from fun wx hk => numP_any fr hfr wx (tabP_same ht hk))
 have HSW := (show Hid (stW true fr rb = [upW true, Lib.itoa fr] ++ rb.map Lib.itoa) from rfl)
 generalize stW true fr rb = SW at HJ HJL HSW
 have HK0 := hid (sameA w [.int .i64 fa, .slice ka len kc, .slice da dur.length dc, .slice pa ps.length pc, .bool true, .slice la ln lc, .slice ha hn hc, .slice ra rn rc, .int .i64 fr] 52)
 have HB0 := hid (Blk.newL w [.int .i64 fa, .slice ka len kc, .slice da dur.length dc, .slice pa ps.length pc, .bool true, .slice la ln lc, .slice ha hn hc, .slice ra rn rc, .int .i64 fr] 52)
 clear hrd hrl hrm ht hfr
 obtain ⟨T0, hT0⟩ : ∃ T, Lib.itoa fr = T := ⟨_, rfl⟩
 rw [hT0] at HN0 HSW
 clear hT0
 go_enter Tryd.func45, Tryd.ntmps45
 go_wp2_with fail
 refine (HN0.out _ HK0.out).mono ?_
 rintro e w1 ⟨rfl, hk1⟩
 have HK1 := hid (HK0.out.trans hk1)
 have HB1 := hid (HB0.out.same hk1)
 have HK2 := hid (HK1.out.alloc (.cells (wcs [[100, 111, 119, 110], T0]).toArray 9))
 have HB2 := hid (HB1.out.alloc (.cells (wcs [[100, 111, 119, 110], T0]).toArray 9))
 have HW2 := hid (Blk.newL w1 (wcs [[100, 111, 119, 110], T0]) 9)
 have hw1 := HB1.out.lt
 clear hk1
 go_upto_region 2 with fail
 simp only [wcs, List.map_cons, List.map_nil] at HK2 HB2 HW2
 have e9 : w1.alloc (.cells #[.string ⟨#[100, 111, 119, 110]⟩, .string (Tx T0)] 9) = w1.alloc (.cells [.string (Tx [100, 111, 119, 110]), .string (Tx T0)].toArray 9) := rfl
 rw [e9]
 generalize w1.alloc (.cells [.string (Tx [100, 111, 119, 110]), .string (Tx T0)].toArray 9) = w2 at HK2 HB2 HW2 ⊢
 generalize w1.heap.size = G at HW2 hw1 ⊢
 have c4 := HB2.out.cell 4
 dsimp only [List.getElem?_cons_zero, List.getElem?_cons_succ] at c4
 have g0 := HW2.out.cell 0
 have f0 := HW2.out.frozen 0
 dsimp only [List.getElem?_cons_zero, List.getElem?_cons_succ] at g0
 have HK3 := (show Hid (Same w (w2.setCell ⟨G, 0, none⟩ (.string ⟨#[117, 112]⟩))) from Kept.setCell HK2.out (.inl (by simp only []; omega)) _)
 have HB3 := hid (HB2.out.other (p := ⟨G, 0, none⟩) (by simp only []; omega) (.string ⟨#[117, 112]⟩))
 have HW3 := (show Hid (Blk (w2.setCell ⟨G, 0, none⟩ (.string ⟨#[117, 112]⟩)) G 9 (wcs [upW true, T0])) from HW2.out.stored 0 _)
 go_upto_region 4 with fail
 clear g0 f0 c4
 generalize w2.setCell ⟨G, 0, none⟩ (.string ⟨#[117, 112]⟩) = w3 at HK3 HB3 HW3 ⊢
 have HOW := (show Hid (OwnS w3 (.slice (some ⟨G, 0, none⟩) 2 2) [upW true, T0]) from OwnS.of_blk HW3.out (by unfold maxLen; simp))
 have c7 := HB3.out.cell 7
 dsimp only [List.getElem?_cons_zero, List.getElem?_cons_succ] at c7
 clear HK2 HB2 HW2 HW3 HK1 HB1 HK0 HB0
 go_wp2
 go_loopw [3, 5, 17] (fun o y i wx => ∃ (j : Nat) (a : Option Addr) (n c : Nat) (Xs : List (List UInt8)), j ≤ rn ∧ i = .int .i64 (j : Int) ∧ o = .slice a n c ∧ Hid (Xs = [upW true, T0] ++ (rb.take j).map Lib.itoa ∧ Xs.length = 2 + j ∧ OwnS wx (.slice a n c) Xs ∧ (∀ b, (Value.slice a n c).ownBlock = some b → w.heap.size ≤ b) ∧ Same w wx)) (fun _ _ i _ => rn - (intOf i).toNat)
 case atStart => exact ⟨0, _, _, _, _, Nat.zero_le _, rfl, rfl, by simp, by simp, HOW.out, fun b hb => by simp [Value.ownBlock] at hb; omega, HK3.out⟩
 case round =>
  obtain ⟨j, a, n, c, Xs, hj, rfl, rfl, HI⟩ := hrel
  obtain ⟨hXe, hXl, hXo, hXf, hXk⟩ := HI.out
  by_cases hjl : j < rn
  ·have hjp : j < rb.length := by rw [HRL.out]; exact hjl
   have hji : (j : Int) < (rn : Int) := by omega
   obtain ⟨b2, off2, rfl, hc2⟩ := HRM.out j hjp
   have hzj := HORM.out _ (List.getElem_mem hjp)
   have HTK := hid (List.take_succ_eq_append_getElem hjp)
   obtain ⟨z, hzz⟩ : ∃ z, rb[j] = z := ⟨_, rfl⟩
   rw [hzz] at hc2 hzj HTK
   have s0 : wr.cell? ⟨b2, off2 + j, none⟩ = some (.int .i64 z) := hXk.cellOf hc2 id
   have HM0 := (show Hid (∀ wx, Same w wx → Calls Tryd.prog 43 #[.int .i64 z] wx fun e w' => e = .returned (.string (Tx (Lib.itoa z))) ∧ Same wx w') from fun wx hk => numP_any z hzj wx (tabP_same HT.out hk))
   have HXE := (show Hid (Xs ++ [Lib.itoa z] = [upW true, T0] ++ (rb.take (j + 1)).map Lib.itoa) from by unfold Hid; rw [HTK.out, List.map_append, ← List.append_assoc, ← hXe]; simp)
   have HXL := (show Hid (Xs.length = 2 + j) from hXl)
   have HXO := hid hXo
   have HXK := hid hXk
   have HXF := (show Hid (∀ b, (Value.slice a n c).ownBlock = some b → w.heap.size ≤ b) from hXf)
   obtain ⟨TZ, hTZ⟩ : ∃ T, Lib.itoa z = T := ⟨_, rfl⟩
   rw [hTZ] at HM0 HXE
   clear hXe hXl hXo hXf hXk hzz hc2 hzj HTK hTZ
   go_wp2_with (first
    | (go_at_call 43; (with_reducible refine (HM0.out _ HXK.out).mono ?_); rintro e w5 ⟨rfl, hk5⟩; have HK5 := hid ((HXK.out.trans hk5).alloc (.cells (wcs [TZ]).toArray 9)); have HO5 := hid ((HXO.out.same hk5).same ((Kept.refl _ _).alloc (.cells (wcs [TZ]).toArray 9))); have HBY := hid (Blk.newL w5 (wcs [TZ]) 9); clear hk5)
    | (at_builtin; refine wpList_appW rfl (.tmp 21) (.tmp 24) rfl (.slice a n c) w5.heap.size 1 1 Xs [TZ] (by rfl) (by rfl) rfl HO5.out HBY.out (by have := HXL.out; simp; omega) ?_; intro a3 n3 c3 q4 hown hgr; have HO4 := hid hown; have HF4 := (show Hid (∀ b, (Value.slice a3 n3 c3).ownBlock = some b → w.heap.size ≤ b) from fun b hb => (by rcases hgr.own b hb with h | h; (exact HXF.out b h); exact Nat.le_trans HK5.out.size h)); have HK4 := (show Hid (Same w q4) from HK5.out.next hgr.kept (fun i hi e => (by have := HXF.out i e; omega))); clear hown hgr))
   go_roundw
   case rel => exact ⟨j + 1, a3, n3, c3, Xs ++ [TZ], by omega, by go_num, rfl, HXE.out, by have := HXL.out; simp; omega, HO4.out, HF4.out, HK4.out⟩
   case measure => simp [intOf]; omega
  ·have hji : ¬ (j : Int) < (rn : Int) := by omega
   have hXA : Xs = SW := by
    have h1 : j = rb.length := by have := HRL.out; omega
    rw [hXe, h1, List.take_length, ← HSW.out]
   obtain ⟨g, cp, eg, h1, h2, h3⟩ := hXo.form (by omega)
   have kl := lineW_any g 0 cp Xs wr h3 h2 (by omega) h1 (by rw [hXA]; exact HJL.out)
   rw [← eg, hXA, HJ.out] at kl
   have HXK := hid hXk
   clear hXe hXl hXo hXf hXk hXA eg h1 h2 h3
   go_wp2_with (first | (go_at_call 42; (with_reducible refine kl.mono ?_); rintro e w9 ⟨rfl, hk9⟩; have HK9 := hid (HXK.out.trans hk9); clear hk9 kl))
   go_ret
   exact ⟨rfl, HK9.out⟩
theorem stateI_false (fa fr : Int) (ka da pa la ha ra : Option Addr) (len kc dc pc ln lc hn hc rn rc : Nat) (dur : List Int) (ps : List PW) (re : TypeId) (rb : List Int) (w : World) (hfr : IsI' fr) (hrm : ∀ z ∈ rb, IsI' z) (hrd : RdF 1 w ⟨re, ra, rn, rc, rb⟩) (hn1 : rn ≤ 1048576) (ht : TabP w) :
  Calls Tryd.prog 45 #[.agg #[.int .i64 fa, .slice ka len kc, .slice da dur.length dc, .slice pa ps.length pc, .bool false, .slice la ln lc, .slice ha hn hc, .slice ra rn rc, .int .i64 fr]] w fun e w' => e = .returned (.string (Tx (stL false fr rb))) ∧ Same w w' := by
 have hrl : rb.length = rn := by have := hrd.2.1; dsimp only at this; omega
 have HRL := hid hrl
 have HRM := (show Hid (∀ j, (h : j < rb.length) → ∃ b off, ra = some ⟨b, off, none⟩ ∧ w.cell? ⟨b, off + j, none⟩ = some (.int .i64 rb[j])) from fun j h => by
  rcases hrd.2.2 with h0 | ⟨b, off, e, _, hc⟩
  ·dsimp only at h0; omega
  ·refine ⟨b, off, e, ?_⟩
   have h2 := hc j (by dsimp only; omega)
   dsimp only at h2
   rw [h2, List.getD_eq_getElem?_getD, List.getElem?_eq_getElem h]
   rfl)
 have HORM := (show Hid (∀ z ∈ rb, IsI' z) from hrm)
 have HT := hid ht
 have HJ := hid (join_st false fr rb)
 have HJL := (show Hid ((Lib.join (stW false fr rb) [32]).length ≤ 1099511627776) from by
  have key : ∀ qs : List Int, (∀ z ∈ qs, IsI' z) → (qs.flatMap rmT).length ≤ 22 * qs.length := fun qs => by
   induction qs with
   | nil => intro _; simp
   | cons q qs ih =>
    intro h
    have h1 := ih (fun x hx => h x (List.mem_cons_of_mem _ hx))
    have h2 := h q (List.mem_cons_self ..)
    have h3 := itoa_len q h2.1 h2.2
    rw [List.flatMap_cons, List.length_append]
    simp only [rmT, List.length_cons] at h1 ⊢
    omega
  have h1 := key rb hrm
  have h2 := itoa_len fr hfr.1 hfr.2
  have e := congrArg List.length (join_st false fr rb)
  rw [List.length_append] at e
  have h3 : (stL false fr rb).length = (upW false).length + 1 + (Lib.itoa fr).length + (rb.flatMap rmT).length + 1 := by unfold stL; simp only [List.length_append, List.length_cons, List.length_nil]
  have h4 : (upW false).length ≤ 4 := by decide
  unfold Hid
  omega)
 have HN0 := (show Hid (∀ wx, Same w wx → Calls Tryd.prog 43 #[.int .i64 fr] wx fun e w' => e = .returned (.string (Tx (Lib.itoa fr))) ∧ Same wx w') from fun wx hk => numP_any fr hfr wx (tabP_same ht hk))
 have HSW := (show Hid (stW false fr rb = [upW false, Lib.itoa fr] ++ rb.map Lib.itoa) from rfl)
 generalize stW false fr rb = SW at HJ HJL HSW
 have HK0 := hid (sameA w [.int .i64 fa, .slice ka len kc, .slice da dur.length dc, .slice pa ps.length pc, .bool false, .slice la ln lc, .slice ha hn hc, .slice ra rn rc, .int .i64 fr] 52)
 have HB0 := hid (Blk.newL w [.int .i64 fa, .slice ka len kc, .slice da dur.length dc, .slice pa ps.length pc, .bool false, .slice la ln lc, .slice ha hn hc, .slice ra rn rc, .int .i64 fr] 52)
 clear hrd hrl hrm ht hfr
 obtain ⟨T0, hT0⟩ : ∃ T, Lib.itoa fr = T := ⟨_, rfl⟩
 rw [hT0] at HN0 HSW
 clear hT0
 go_enter Tryd.func45, Tryd.ntmps45
 go_wp2_with fail
 refine (HN0.out _ HK0.out).mono ?_
 rintro e w1 ⟨rfl, hk1⟩
 have HK1 := hid (HK0.out.trans hk1)
 have HB1 := hid (HB0.out.same hk1)
 have HK2 := hid (HK1.out.alloc (.cells (wcs [[100, 111, 119, 110], T0]).toArray 9))
 have HB2 := hid (HB1.out.alloc (.cells (wcs [[100, 111, 119, 110], T0]).toArray 9))
 have HW2 := hid (Blk.newL w1 (wcs [[100, 111, 119, 110], T0]) 9)
 have hw1 := HB1.out.lt
 clear hk1
 go_upto_region 2 with fail
 simp only [wcs, List.map_cons, List.map_nil] at HK2 HB2 HW2
 have e9 : w1.alloc (.cells #[.string ⟨#[100, 111, 119, 110]⟩, .string (Tx T0)] 9) = w1.alloc (.cells [.string (Tx [100, 111, 119, 110]), .string (Tx T0)].toArray 9) := rfl
 rw [e9]
 generalize w1.alloc (.cells [.string (Tx [100, 111, 119, 110]), .string (Tx T0)].toArray 9) = w2 at HK2 HB2 HW2 ⊢
 generalize w1.heap.size = G at HW2 hw1 ⊢
 have c4 := HB2.out.cell 4
 dsimp only [List.getElem?_cons_zero, List.getElem?_cons_succ] at c4
 have HK3 := hid HK2.out
 have HB3 := hid HB2.out
 have HW3 := (show Hid (Blk w2 G 9 (wcs [upW false, T0])) from HW2.out)
 go_upto_region 4 with fail
 clear c4
 generalize w2 = w3 at HK3 HB3 HW3 ⊢
 have HOW := (show Hid (OwnS w3 (.slice (some ⟨G, 0, none⟩) 2 2) [upW false, T0]) from OwnS.of_blk HW3.out (by unfold maxLen; simp))
 have c7 := HB3.out.cell 7
 dsimp only [List.getElem?_cons_zero, List.getElem?_cons_succ] at c7
 clear HK2 HB2 HW2 HW3 HK1 HB1 HK0 HB0
 go_wp2
 go_loopw [3, 5, 17] (fun o y i wx => ∃ (j : Nat) (a : Option Addr) (n c : Nat) (Xs : List (List UInt8)), j ≤ rn ∧ i = .int .i64 (j : Int) ∧ o = .slice a n c ∧ Hid (Xs = [upW false, T0] ++ (rb.take j).map Lib.itoa ∧ Xs.length = 2 + j ∧ OwnS wx (.slice a n c) Xs ∧ (∀ b, (Value.slice a n c).ownBlock = some b → w.heap.size ≤ b) ∧ Same w wx)) (fun _ _ i _ => rn - (intOf i).toNat)
 case atStart => exact ⟨0, _, _, _, _, Nat.zero_le _, rfl, rfl, by simp, by simp, HOW.out, fun b hb => by simp [Value.ownBlock] at hb; omega, HK3.out⟩
 case round =>
  obtain ⟨j, a, n, c, Xs, hj, rfl, rfl, HI⟩ := hrel
  obtain ⟨hXe, hXl, hXo, hXf, hXk⟩ := HI.out
  by_cases hjl : j < rn
  ·have hjp : j < rb.length := by rw [HRL.out]; exact hjl
   have hji : (j : Int) < (rn : Int) := by omega
   obtain ⟨b2, off2, rfl, hc2⟩ := HRM.out j hjp
   have hzj := HORM.out _ (List.getElem_mem hjp)
   have HTK := hid (List.take_succ_eq_append_getElem hjp)
   obtain ⟨z, hzz⟩ : ∃ z, rb[j] = z := ⟨_, rfl⟩
   rw [hzz] at hc2 hzj HTK
   have s0 : wr.cell? ⟨b2, off2 + j, none⟩ = some (.int .i64 z) := hXk.cellOf hc2 id
   have HM0 := (show Hid (∀ wx, Same w wx → Calls Tryd.prog 43 #[.int .i64 z] wx fun e w' => e = .returned (.string (Tx (Lib.itoa z))) ∧ Same wx w') from fun wx hk => numP_any z hzj wx (tabP_same HT.out hk))
   have HXE := (show Hid (Xs ++ [Lib.itoa z] = [upW false, T0] ++ (rb.take (j + 1)).map Lib.itoa) from by unfold Hid; rw [HTK.out, List.map_append, ← List.append_assoc, ← hXe]; simp)
   have HXL := (show Hid (Xs.length = 2 + j) from hXl)
   have HXO := hid hXo
   have HXK := hid hXk
   have HXF := (show Hid (∀ b, (Value.slice a n c).ownBlock = some b → w.heap.size ≤ b) from hXf)
   obtain ⟨TZ, hTZ⟩ : ∃ T, Lib.itoa z = T := ⟨_, rfl⟩
   rw [hTZ] at HM0 HXE
   clear hXe hXl hXo hXf hXk hzz hc2 hzj HTK hTZ
   go_wp2_with (first
    | (go_at_call 43; (with_reducible refine (HM0.out _ HXK.out).mono ?_); rintro e w5 ⟨rfl, hk5⟩; have HK5 := hid ((HXK.out.trans hk5).alloc (.cells (wcs [TZ]).toArray 9)); have HO5 := hid ((HXO.out.same hk5).same ((Kept.refl _ _).alloc (.cells (wcs [TZ]).toArray 9))); have HBY := hid (Blk.newL w5 (wcs [TZ]) 9); clear hk5)
    | (at_builtin; refine wpList_appW rfl (.tmp 21) (.tmp 24) rfl (.slice a n c) w5.heap.size 1 1 Xs [TZ] (by rfl) (by rfl) rfl HO5.out HBY.out (by have := HXL.out; simp; omega) ?_; intro a3 n3 c3 q4 hown hgr; have HO4 := hid hown; have HF4 := (show Hid (∀ b, (Value.slice a3 n3 c3).ownBlock = some b → w.heap.size ≤ b) from fun b hb => (by rcases hgr.own b hb with h | h; (exact HXF.out b h); exact Nat.le_trans HK5.out.size h)); have HK4 := (show Hid (Same w q4) from HK5.out.next hgr.kept (fun i hi e => (by have := HXF.out i e; omega))); clear hown hgr))
   go_roundw
   case rel => exact ⟨j + 1, a3, n3, c3, Xs ++ [TZ], by omega, by go_num, rfl, HXE.out, by have := HXL.out; simp; omega, HO4.out, HF4.out, HK4.out⟩
   case measure => simp [intOf]; omega
  ·have hji : ¬ (j : Int) < (rn : Int) := by omega
   have hXA : Xs = SW := by
    have h1 : j = rb.length := by have := HRL.out; omega
    rw [hXe, h1, List.take_length, ← HSW.out]
   obtain ⟨g, cp, eg, h1, h2, h3⟩ := hXo.form (by omega)
   have kl := lineW_any g 0 cp Xs wr h3 h2 (by omega) h1 (by rw [hXA]; exact HJL.out)
   rw [← eg, hXA, HJ.out] at kl
   have HXK := hid hXk
   clear hXe hXl hXo hXf hXk hXA eg h1 h2 h3
   go_wp2_with (first | (go_at_call 42; (with_reducible refine kl.mono ?_); rintro e w9 ⟨rfl, hk9⟩; have HK9 := hid (HXK.out.trans hk9); clear hk9 kl))
   go_ret
   exact ⟨rfl, HK9.out⟩
end Go.Proofs.YtbilnlgjpchgiaaDoor
