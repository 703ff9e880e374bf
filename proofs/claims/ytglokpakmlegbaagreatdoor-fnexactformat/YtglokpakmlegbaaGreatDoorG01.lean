import Derived.Test.YtglokpakmlegbaaGreatDoorG00
import Derived.Test.YtglokpakmlegbaaGreatDoorRows
import Derived.WalkKit
import Derived.LaidEql
import Derived.Stop.Asserts
import Derived.RowKitTokens
import Derived.Stop.LaidTwo
import Derived.LaidLaws
import Derived.LaidHandle
import Derived.ChangeVars
import Derived.Deep.RegionWith
import Derived.Deep.DeepMust
import Derived.Laws.BitsAllLaws
namespace Go.Proofs.YtglokpakmlegbaaGreatDoor
set_option maxRecDepth 100000
set_option maxHeartbeats 2000000
set_option linter.unusedVariables false
set_option linter.unusedSimpArgs false
open Go.RowKit Go.ChangeShapes Go.WideShapes
def mF (s e c l : Int) : Int := if ¬ (1 ≤ s ∧ s ≤ 1099511627776) then 1 else if ¬ (1 ≤ e ∧ e ≤ 4294967295) then 2 else if l < 512 ∨ c < l ∨ 1099511627776 < c then 3 else 0
structure Errs (w : World) (a0 a1 a2 : Addr) : Prop where
 c0 : w.cell? ⟨0, 0, none⟩ = some (.iface 166 (.pointer (some a0)))
 c1 : w.cell? ⟨1, 0, none⟩ = some (.iface 166 (.pointer (some a1)))
 c2 : w.cell? ⟨2, 0, none⟩ = some (.iface 166 (.pointer (some a2)))
theorem Errs.same {w w' : World} {a0 a1 a2 : Addr} (h : Errs w a0 a1 a2) (hk : Same w w') : Errs w' a0 a1 a2 := ⟨hk.cellOf h.c0 id, hk.cellOf h.c1 id, hk.cellOf h.c2 id⟩
structure ErrsD (w : World) (a0 a1 a2 : Addr) : Prop where
 errs : Errs w a0 a1 a2
 n01 : a0 ≠ a1
 n02 : a0 ≠ a2
 n12 : a1 ≠ a2
 b0 : ∃ c t, w.heap[a0.block]? = some (.cells c t (0, 0))
 b1 : ∃ c t, w.heap[a1.block]? = some (.cells c t (0, 0))
 b2 : ∃ c t, w.heap[a2.block]? = some (.cells c t (0, 0))
theorem ErrsD.same {w w' : World} {a0 a1 a2 : Addr} (h : ErrsD w a0 a1 a2) (hk : Same w w') : ErrsD w' a0 a1 a2 :=
 ⟨h.errs.same hk, h.n01, h.n02, h.n12, (by obtain ⟨c, t, hb⟩ := h.b0; exact ⟨c, t, hk.heap hb id⟩), (by obtain ⟨c, t, hb⟩ := h.b1; exact ⟨c, t, hk.heap hb id⟩), (by obtain ⟨c, t, hb⟩ := h.b2; exact ⟨c, t, hk.heap hb id⟩)⟩
def errV (a0 a1 a2 : Addr) (k : Int) : Value := if k = 1 then .iface 166 (.pointer (some a0)) else if k = 2 then .iface 166 (.pointer (some a1)) else if k = 3 then .iface 166 (.pointer (some a2)) else .nilIface
theorem mF1 {s e c l : Int} (h : ¬ (1 ≤ s ∧ s ≤ 1099511627776)) : mF s e c l = 1 := by unfold mF; rw [if_pos h]
theorem mF2 {s e c l : Int} (h : 1 ≤ s ∧ s ≤ 1099511627776) (h2 : ¬ (1 ≤ e ∧ e ≤ 4294967295)) : mF s e c l = 2 := by unfold mF; rw [if_neg (not_not_intro h), if_pos h2]
theorem mF3 {s e c l : Int} (h : 1 ≤ s ∧ s ≤ 1099511627776) (h2 : 1 ≤ e ∧ e ≤ 4294967295) (h3 : l < 512 ∨ c < l ∨ 1099511627776 < c) : mF s e c l = 3 := by unfold mF; rw [if_neg (not_not_intro h), if_neg (not_not_intro h2), if_pos h3]
theorem mF0 {s e c l : Int} (h : 1 ≤ s ∧ s ≤ 1099511627776) (h2 : 1 ≤ e ∧ e ≤ 4294967295) (h3 : ¬ (l < 512 ∨ c < l ∨ 1099511627776 < c)) : mF s e c l = 0 := by unfold mF; rw [if_neg (not_not_intro h), if_neg (not_not_intro h2), if_neg h3]
theorem mF_good {s e c l : Int} (h : mF s e c l = 0) : (1 ≤ s ∧ s ≤ 1099511627776) ∧ (1 ≤ e ∧ e ≤ 4294967295) ∧ 512 ≤ l ∧ l ≤ c ∧ c ≤ 1099511627776 := by
 unfold mF at h
 split at h
 ·cases h
 ·split at h
  ·cases h
  ·split at h
   ·cases h
   ·omega
theorem mF_cases (s e c l : Int) : mF s e c l = 0 ∨ mF s e c l = 1 ∨ mF s e c l = 2 ∨ mF s e c l = 3 := by
 unfold mF
 split
 ·simp
 ·split
  ·simp
  ·split <;> simp
theorem specMF_any (s e c l : Int) (w : World) : Calls Tryz.prog 33 #[.agg #[.int .i64 s, .int .i64 e, .int .i64 c, .int .i64 l]] w fun ex w' => ex = .returned (.int .i64 (mF s e c l)) ∧ Same w w' := by
 have k1 := fun wx => l4In_any s 1 1099511627776 wx
 have k2 := fun wx => l4In_any e 1 4294967295 wx
 have b0 := Blk.new w #[.int .i64 s, .int .i64 e, .int .i64 c, .int .i64 l] 38
 have HK0 := hid (sameA w [.int .i64 s, .int .i64 e, .int .i64 c, .int .i64 l] 38)
 by_cases hs : 1 ≤ s ∧ s ≤ 1099511627776
 ·rw [show inB s 1 1099511627776 = true from by simp [inB, hs.1, hs.2]] at k1
  by_cases he : 1 ≤ e ∧ e ≤ 4294967295
  ·rw [show inB e 1 4294967295 = true from by simp [inB, he.1, he.2]] at k2
   by_cases h3 : l < 512 ∨ c < l ∨ 1099511627776 < c
   ·rw [mF3 hs he h3]
    clear hs he
    by_cases h1 : l < 512
    ·clear h3
     go_enter Tryz.func33, Tryz.ntmps33
     go_wp2_with (first
      | (go_at_call 31; (with_reducible refine (k1 _).mono ?_); rintro ex w1 ⟨rfl, hk1⟩; have b1 := b0.same hk1; obtain ⟨d0, d1, d2, d3⟩ := b1.all4)
      | (go_at_call 31; (with_reducible refine (k2 _).mono ?_); rintro ex w2 ⟨rfl, hk2⟩; have b2 := b1.same hk2; obtain ⟨e0, e1, e2, e3⟩ := b2.all4))
     go_ret
     exact ⟨rfl, (HK0.out.trans hk1).trans hk2⟩
    ·by_cases h2 : c < l
     ·clear h3
      go_enter Tryz.func33, Tryz.ntmps33
      go_wp2_with (first
       | (go_at_call 31; (with_reducible refine (k1 _).mono ?_); rintro ex w1 ⟨rfl, hk1⟩; have b1 := b0.same hk1; obtain ⟨d0, d1, d2, d3⟩ := b1.all4)
       | (go_at_call 31; (with_reducible refine (k2 _).mono ?_); rintro ex w2 ⟨rfl, hk2⟩; have b2 := b1.same hk2; obtain ⟨e0, e1, e2, e3⟩ := b2.all4))
      go_ret
      exact ⟨rfl, (HK0.out.trans hk1).trans hk2⟩
     ·have h4 : 1099511627776 < c := by omega
      clear h3
      go_enter Tryz.func33, Tryz.ntmps33
      go_wp2_with (first
       | (go_at_call 31; (with_reducible refine (k1 _).mono ?_); rintro ex w1 ⟨rfl, hk1⟩; have b1 := b0.same hk1; obtain ⟨d0, d1, d2, d3⟩ := b1.all4)
       | (go_at_call 31; (with_reducible refine (k2 _).mono ?_); rintro ex w2 ⟨rfl, hk2⟩; have b2 := b1.same hk2; obtain ⟨e0, e1, e2, e3⟩ := b2.all4))
      go_ret
      exact ⟨rfl, (HK0.out.trans hk1).trans hk2⟩
   ·rw [mF0 hs he h3]
    have h1 : ¬ l < 512 := by omega
    have h2 : ¬ c < l := by omega
    have h4 : ¬ 1099511627776 < c := by omega
    clear hs he h3
    go_enter Tryz.func33, Tryz.ntmps33
    go_wp2_with (first
     | (go_at_call 31; (with_reducible refine (k1 _).mono ?_); rintro ex w1 ⟨rfl, hk1⟩; have b1 := b0.same hk1; obtain ⟨d0, d1, d2, d3⟩ := b1.all4)
     | (go_at_call 31; (with_reducible refine (k2 _).mono ?_); rintro ex w2 ⟨rfl, hk2⟩; have b2 := b1.same hk2; obtain ⟨e0, e1, e2, e3⟩ := b2.all4))
    go_ret
    exact ⟨rfl, (HK0.out.trans hk1).trans hk2⟩
  ·rw [mF2 hs he, show inB e 1 4294967295 = false from by simp [inB]; omega] at *
   go_enter Tryz.func33, Tryz.ntmps33
   go_wp2_with (first
    | (go_at_call 31; (with_reducible refine (k1 _).mono ?_); rintro ex w1 ⟨rfl, hk1⟩; have b1 := b0.same hk1; obtain ⟨d0, d1, d2, d3⟩ := b1.all4)
    | (go_at_call 31; (with_reducible refine (k2 _).mono ?_); rintro ex w2 ⟨rfl, hk2⟩; have b2 := b1.same hk2; obtain ⟨e0, e1, e2, e3⟩ := b2.all4))
   go_ret
   exact ⟨rfl, (HK0.out.trans hk1).trans hk2⟩
 ·rw [mF1 hs, show inB s 1 1099511627776 = false from by simp [inB]; omega] at *
  go_enter Tryz.func33, Tryz.ntmps33
  go_wp2_with (go_at_call 31; (with_reducible refine (k1 _).mono ?_); rintro ex w1 ⟨rfl, hk1⟩)
  go_ret
  exact ⟨rfl, HK0.out.trans hk1⟩
theorem wrongMaster_any (s e c l : Int) (a0 a1 a2 : Addr) (w : World) (hE : Errs w a0 a1 a2) : Calls Tryz.prog 44 #[.agg #[.int .i64 s, .int .i64 e, .int .i64 c, .int .i64 l]] w fun ex w' => ex = .returned (errV a0 a1 a2 (mF s e c l)) ∧ Same w w' := by
 have HK0 := hid (sameA w [.int .i64 s, .int .i64 e, .int .i64 c, .int .i64 l] 38)
 have v0 := (hE.same HK0.out).c0
 have v1 := (hE.same HK0.out).c1
 have v2 := (hE.same HK0.out).c2
 clear hE
 by_cases hs : 1 ≤ s ∧ s ≤ 1099511627776
 ·have s1 : ¬ s < 1 := by omega
  have s2 : ¬ 1099511627776 < s := by omega
  by_cases he : 1 ≤ e ∧ e ≤ 4294967295
  ·have e1 : ¬ e < 1 := by omega
   have e2 : ¬ 4294967295 < e := by omega
   by_cases h3 : l < 512 ∨ c < l ∨ 1099511627776 < c
   ·rw [mF3 hs he h3]
    clear hs he
    by_cases h1 : l < 512
    ·clear h3
     go_enter Tryz.func44, Tryz.ntmps44
     go_wp2
     go_ret
     exact ⟨rfl, HK0.out⟩
    ·by_cases h2 : c < l
     ·clear h3
      go_enter Tryz.func44, Tryz.ntmps44
      go_wp2
      go_ret
      exact ⟨rfl, HK0.out⟩
     ·have h4 : 1099511627776 < c := by omega
      clear h3
      go_enter Tryz.func44, Tryz.ntmps44
      go_wp2
      go_ret
      exact ⟨rfl, HK0.out⟩
   ·rw [mF0 hs he h3]
    have h1 : ¬ l < 512 := by omega
    have h2 : ¬ c < l := by omega
    have h4 : ¬ 1099511627776 < c := by omega
    clear hs he h3
    go_enter Tryz.func44, Tryz.ntmps44
    go_wp2
    go_ret
    exact ⟨rfl, HK0.out⟩
  ·rw [mF2 hs he]
   clear hs
   by_cases e1 : e < 1
   ·clear he
    go_enter Tryz.func44, Tryz.ntmps44
    go_wp2
    go_ret
    exact ⟨rfl, HK0.out⟩
   ·have e2 : 4294967295 < e := by omega
    clear he
    go_enter Tryz.func44, Tryz.ntmps44
    go_wp2
    go_ret
    exact ⟨rfl, HK0.out⟩
 ·rw [mF1 hs]
  by_cases s1 : s < 1
  ·clear hs
   go_enter Tryz.func44, Tryz.ntmps44
   go_wp2
   go_ret
   exact ⟨rfl, HK0.out⟩
  ·have s2 : 1099511627776 < s := by omega
   clear hs
   go_enter Tryz.func44, Tryz.ntmps44
   go_wp2
   go_ret
   exact ⟨rfl, HK0.out⟩
theorem Tryz.gn0 : Tryz.prog.globalNamed "loop.example/s02544/impl.errMasterSeq" = some 0 := by kernel_rfl
theorem Tryz.gt0 : (Tryz.prog.globals[0]?).map (·.type) = some 65 := by kernel_rfl
abbrev txt0 : ByteArray := { data := #[116, 104, 101, 32, 110, 117, 109, 98, 101, 114, 32, 111, 102, 32, 116, 104, 101, 32, 109, 97, 115, 116, 101, 114, 32, 105, 115, 32, 111, 117, 116, 32, 111, 102, 32, 105, 116, 115, 32, 98, 111, 117, 110, 100, 115] }
abbrev L0 : String × DataW Unit := ("loop.example/s02544/impl.errMasterSeq", .iface "*errors.errorString" (.ptr (.agg [.lit (.string [116, 104, 101, 32, 110, 117, 109, 98, 101, 114, 32, 111, 102, 32, 116, 104, 101, 32, 109, 97, 115, 116, 101, 114, 32, 105, 115, 32, 111, 117, 116, 32, 111, 102, 32, 105, 116, 115, 32, 98, 111, 117, 110, 100, 115])])))
theorem Tryz.gn1 : Tryz.prog.globalNamed "loop.example/s02544/impl.errMasterEpoch" = some 1 := by kernel_rfl
theorem Tryz.gt1 : (Tryz.prog.globals[1]?).map (·.type) = some 65 := by kernel_rfl
abbrev txt1 : ByteArray := { data := #[116, 104, 101, 32, 101, 112, 111, 99, 104, 32, 111, 102, 32, 116, 104, 101, 32, 109, 97, 115, 116, 101, 114, 32, 105, 115, 32, 111, 117, 116, 32, 111, 102, 32, 105, 116, 115, 32, 98, 111, 117, 110, 100, 115] }
abbrev L1 : String × DataW Unit := ("loop.example/s02544/impl.errMasterEpoch", .iface "*errors.errorString" (.ptr (.agg [.lit (.string [116, 104, 101, 32, 101, 112, 111, 99, 104, 32, 111, 102, 32, 116, 104, 101, 32, 109, 97, 115, 116, 101, 114, 32, 105, 115, 32, 111, 117, 116, 32, 111, 102, 32, 105, 116, 115, 32, 98, 111, 117, 110, 100, 115])])))
theorem Tryz.gn2 : Tryz.prog.globalNamed "loop.example/s02544/impl.errMasterPlaces" = some 2 := by kernel_rfl
theorem Tryz.gt2 : (Tryz.prog.globals[2]?).map (·.type) = some 65 := by kernel_rfl
abbrev txt2 : ByteArray := { data := #[116, 104, 101, 32, 112, 108, 97, 99, 101, 115, 32, 111, 102, 32, 116, 104, 101, 32, 109, 97, 115, 116, 101, 114, 32, 97, 114, 101, 32, 111, 117, 116, 32, 111, 102, 32, 116, 104, 101, 105, 114, 32, 111, 114, 100, 101, 114] }
abbrev L2 : String × DataW Unit := ("loop.example/s02544/impl.errMasterPlaces", .iface "*errors.errorString" (.ptr (.agg [.lit (.string [116, 104, 101, 32, 112, 108, 97, 99, 101, 115, 32, 111, 102, 32, 116, 104, 101, 32, 109, 97, 115, 116, 101, 114, 32, 97, 114, 101, 32, 111, 117, 116, 32, 111, 102, 32, 116, 104, 101, 105, 114, 32, 111, 114, 100, 101, 114])])))
theorem Tryz.cellsE : Tryz.prog.cellsOf 191 = 1 := by kernel_rfl
theorem Tryz.cellsS : Tryz.prog.cellsOf 9 = 1 := by kernel_rfl
theorem Tryz.star : "*" ++ "errors.errorString" = "*errors.errorString" := by decide
theorem Tryz.rowE (u : TypeId) (h : Tryz.prog.typeName? 3 u = some "*errors.errorString") : u = 166 :=
 typeName_ptr_named (nm := "errors.errorString") (by rw [Tryz.star]; kernel_rfl) (by kernel_rfl) (by decide) u (by rw [Tryz.star]; exact h)
abbrev errAt (a : Addr) : Value := .iface 166 (.pointer (some a))
theorem laid3 {W : World} {r : List (String × DataW Unit)} (h : laidMet Tryz.prog (L0 :: L1 :: L2 :: r) W) :
  ∃ a0 a1 a2 : Addr, W.var? Tryz.prog L0.1 = some #[errAt a0] ∧ W.var? Tryz.prog L1.1 = some #[errAt a1] ∧ W.var? Tryz.prog L2.1 = some #[errAt a2] ∧ ErrsD W a0 a1 a2 := by
 obtain ⟨a0, a1, s0, s1, c0, c1, t0, t1, hv0, hv1, hc0, hs0, hz0, hc1, hs1, hz1, hne, hb0, hb1⟩ := laid_sentinels2 h Tryz.gn0 Tryz.gt0 Tryz.gn1 Tryz.gt1 Tryz.underlying65 Tryz.rowE Tryz.underlying166 Tryz.underlying191 rfl rfl Tryz.underlying9 Tryz.cellsE Tryz.cellsS
 obtain ⟨a1', a2, s1', s2, c1', c2, t1', t2, hv1', hv2, _, _, _, hc2, hs2, hz2, hne2, hb1', hb2⟩ := laid_sentinels2 h.tail Tryz.gn1 Tryz.gt1 Tryz.gn2 Tryz.gt2 Tryz.underlying65 Tryz.rowE Tryz.underlying166 Tryz.underlying191 rfl rfl Tryz.underlying9 Tryz.cellsE Tryz.cellsS
 obtain rfl : a1 = a1' := by have := hv1.symm.trans hv1'; simpa using this
 refine ⟨a0, a1, a2, hv0, hv1, hv2, ⟨by simpa using World.var?_cell Tryz.gn0 hv0 0, by simpa using World.var?_cell Tryz.gn1 hv1 0, by simpa using World.var?_cell Tryz.gn2 hv2 0⟩, hne, ?_, hne2, ⟨_, _, hb0⟩, ⟨_, _, hb1⟩, ⟨_, _, hb2⟩⟩
 rintro rfl
 have := hs0.symm.trans ((congrArg (fun s => s.data.toList) (by simpa using hc0.symm.trans hc2 : s0 = s2)).trans hs2)
 exact absurd this (by decide)
theorem var_same {W W' : World} {n : String} {cs : Array Value} (hk : Same W W') (h : W.var? Tryz.prog n = some cs) : W'.var? Tryz.prog n = some cs := by
 unfold World.var? at h ⊢
 cases hg : Tryz.prog.globalNamed n with
 | none => simp [hg] at h
 | some g =>
  simp only [hg, Option.bind_some] at h ⊢
  cases ho : W.heap[g]? with
  | none => simp [ho] at h
  | some ob => rw [hk.heap ho id]; rw [ho] at h; exact h
def putG (h : Array Obj) (g n : Nat) : Array Obj := h.modify g fun
 | .cells _ t frozen => .cells #[.iface 166 (.pointer (some ⟨n, 0, none⟩))] t frozen
 | o => o
abbrev laidOnCObj : Array Obj := #[.cells #[.string txt0] 191, .cells #[.string txt1] 191, .cells #[.string txt2] 191]
def laidOnC (w0 : World) (low : Nat) : World :=
 { w0 with heap := putG (putG (putG (w0.heap) 0 (low + 0)) 1 (low + 1)) 2 (low + 2) }
theorem laid_metC (os : Os) (args : Array Value) : laidMetH Tryz.prog [L0, L1, L2] ((laidOnC (World.holding Tryz.prog os ⟨laidOnCObj, #[], []⟩) (World.holding Tryz.prog default ⟨#[], #[], []⟩).heap.size).forCall (fun _ _ => 0) ⟨#[], args, []⟩).memory :=
 (laidMet_of_run (ps := [.cell 0 0, .cell ((World.holding Tryz.prog default ⟨#[], #[], []⟩).heap.size + 0) 0, .cell 1 0, .cell ((World.holding Tryz.prog default ⟨#[], #[], []⟩).heap.size + 1) 0, .cell 2 0, .cell ((World.holding Tryz.prog default ⟨#[], #[], []⟩).heap.size + 2) 0]) 8 (by kernel_rfl) (by kernel_rfl) (by kernel_rfl) : laidMet Tryz.prog _ _)
theorem vars3 {H : Type} (enc : TypeId × Value → H) {X : World} {a0 a1 a2 : Addr} (x0 : X.var? Tryz.prog L0.1 = some #[errAt a0]) (x1 : X.var? Tryz.prog L1.1 = some #[errAt a1]) (x2 : X.var? Tryz.prog L2.1 = some #[errAt a2]) (sp : Nat → Bool) :
  DataW.TrodVars enc Tryz.prog X sp [L0.1, L1.1, L2.1] [tok enc (errAt a0), tok enc (errAt a1), tok enc (errAt a2)] [.cell 0 0, .cell 1 0, .cell 2 0] :=
 ⟨0, 65, #[errAt a0], 1, [], [.cell 1 0, .cell 2 0], Tryz.gn0, Tryz.gt0, x0, trod_held Tryz.underlying65 (show IsIface (errAt a0) from trivial) 0, ⟨1, 65, #[errAt a1], 1, [], [.cell 2 0], Tryz.gn1, Tryz.gt1, x1, trod_held Tryz.underlying65 (show IsIface (errAt a1) from trivial) 0, ⟨2, 65, #[errAt a2], 1, [], [], Tryz.gn2, Tryz.gt2, x2, trod_held Tryz.underlying65 (show IsIface (errAt a2) from trivial) 0, rfl, rfl⟩, rfl⟩, rfl⟩
theorem markSectorWriteS_own (base : Nat) (va : Value) (ps : List PW) (k0 : Int) (w : World) (h0 : 0 ≤ k0) (h1 : endP k0 ps ≤ 1125899906842624) (hn : ps.length ≤ 1125899906842624)
  (ha : OwnP base 82 5 w va ps) :
  Calls Tryz.prog 28 #[va, .int .i64 k0] w fun e w' => e = .returned (.int .i64 (endP k0 ps)) ∧ OwnP base 82 5 w' va (markP k0 ps) ∧ Kept (footP va ps) w w' := by
 by_cases hz : ps.length = 0
 ·obtain rfl : ps = [] := List.length_eq_zero_iff.1 hz
  obtain ⟨aa, ca, rfl⟩ : ∃ aa ca, va = .slice aa 0 ca := by rcases ha.form with ⟨rfl, _⟩ | ⟨g, cap, rfl, _⟩ <;> exact ⟨_, _, rfl⟩
  have HA : Hid (OwnP base 82 5 w (.slice aa 0 ca) []) := ha
  clear ha hn hz
  go_enter Tryz.func28, Tryz.ntmps28
  go_wp2
  refine wp_loop_rounds 1 ?_
  rw [rounds_succ]
  go_wp2
  go_ret
  exact ⟨by simp [endP], by simpa [markP] using HA.out, Kept.refl _ _⟩
 ·obtain ⟨g, cap, rfl, hb, hlt, _, _⟩ : ∃ g cap, va = .slice (some ⟨g, 0, none⟩) ps.length cap ∧ base ≤ g ∧ g < w.heap.size ∧ ps.length ≤ cap ∧ cap ≤ maxLen := by
   rcases ha.form with ⟨_, rfl⟩ | h
   ·simp at hz
   ·exact h
  generalize hl : ps.length = len at *
  have HL : Hid (ps.length = len) := hl
  have H1 : Hid (endP k0 ps ≤ 1125899906842624) := h1
  have HA : Hid (OwnP base 82 5 w (.slice (some ⟨g, 0, none⟩) len cap) ps) := ha
  clear hl h1 ha
  go_enter Tryz.func28, Tryz.ntmps28
  go_wp2
  go_loopw [1, 5] (fun v i wr => ∃ (k : Nat) (c : Int), k ≤ len ∧ i = .int .i64 k ∧ v = .int .i64 c ∧ Hid (c = endP k0 (ps.take k)) ∧ Hid (OwnP base 82 5 wr (.slice (some ⟨g, 0, none⟩) len cap) (partP k0 ps k)) ∧ Hid (Kept (footP (.slice (some ⟨g, 0, none⟩) len cap) ps) w wr)) (fun _ i _ => len - (intOf i).toNat)
  case atStart => exact ⟨0, k0, Nat.zero_le _, rfl, rfl, rfl, by rw [partP_zero]; exact HA.out, Kept.refl _ _⟩
  case round =>
   obtain ⟨k, c, hk, rfl, rfl, HC, HO, HK⟩ := hrel
   by_cases hlt : k < len
   ·have hlp : k < ps.length := by rw [HL.out]; exact hlt
    have hf := HO.out.frozen (by rw [partP_length]; exact HL.out.symm) (k * 2)
    have hc := HO.out.sec (by rw [partP_length]; exact HL.out.symm) k (by rw [partP_length]; exact hlp)
    have hv : wr.cell? ⟨g, k * 2 + 1, none⟩ = some ps[k].v := by rw [HO.out.val (by rw [partP_length]; exact HL.out.symm) k (by rw [partP_length]; exact hlp), partP_vAt _ _ _ _ hlp]
    have hc0 : k0 ≤ c := by rw [HC.out]; exact endP_le _ _
    have hc1 : c + 1 + ps[k].bs.length ≤ 1125899906842624 := by rw [HC.out, ← endP_step k0 ps k hlp]; exact Int.le_trans (endP_take_le _ _ _) H1.out
    have HO2 : Hid (OwnP base 82 5 (wr.setCell ⟨g, k * 2, none⟩ (.int .i64 c)) (.slice (some ⟨g, 0, none⟩) len cap) (markP k0 (ps.take k) ++ ⟨c, ps[k].v, ps[k].bs⟩ :: ps.drop (k + 1))) := by
     have h := HO.out
     rw [partP_at _ _ _ hlp] at h
     have hl := HL.out
     exact h.setSec (by simp [markP_length]; omega) c _ (by simp [markP_length]; omega)
    go_wp2_with fail
    refine (markByteS_own base ps[k].v ps[k].bs (c + 1) _ (by omega) (by omega) (by omega) (HO2.out.data ⟨c, ps[k].v, ps[k].bs⟩ (by simp))).mono ?_
    rintro e w1 ⟨rfl, ho, hk1⟩
    have HO3 : Hid (OwnP base 82 5 w1 (.slice (some ⟨g, 0, none⟩) len cap) (partP k0 ps (k + 1))) := by
     rw [partP_step _ _ _ hlp, ← HC.out]
     exact HO2.out.setData hk1 ho
    have HK3 : Hid (Kept (footP (.slice (some ⟨g, 0, none⟩) len cap) ps) w w1) :=
     (HK.out.setCell (p := ⟨g, k * 2, none⟩) (.inr (.inl rfl)) _).trans (hk1.mono fun b _ hb => .inr ⟨ps[k], List.getElem_mem _, hb⟩)
    clear ho hk1 hv hc hf HO HO2
    go_wp2
    go_roundw
    case rel =>
     exact ⟨k + 1, c + 1 + ps[k].bs.length, by omega, by go_num, rfl, by rw [endP_step _ _ _ hlp, ← HC.out]; rfl, HO3, HK3⟩
    case measure => simp [intOf]; omega
   ·go_wp2
    go_ret
    obtain rfl : k = len := by omega
    have hl := HL.out
    have hc := HC.out
    have ho := HO.out
    rw [← hl, List.take_length] at hc
    rw [← hl, partP_all, hl] at ho
    exact ⟨ret_int hc, ho, HK.out⟩
theorem heldSectorWriteS_own (base : Nat) (va : Value) (ps : List PW) (k0 : Int) (w : World) (h0 : 0 ≤ k0) (h1 : endP k0 ps ≤ 1125899906842624) (hn : ps.length ≤ 1125899906842624)
  (ha : OwnP base 82 5 w va (markP k0 ps)) :
  Calls Tryz.prog 30 #[va, .int .i64 k0] w fun e w' => e = .returned (.int .i64 (endP k0 ps)) ∧ w' = w := by
 by_cases hz : ps.length = 0
 ·obtain rfl : ps = [] := List.length_eq_zero_iff.1 hz
  obtain ⟨aa, ca, rfl⟩ : ∃ aa ca, va = .slice aa 0 ca := by rcases ha.form with ⟨rfl, _⟩ | ⟨g, cap, rfl, _⟩ <;> exact ⟨_, _, rfl⟩
  clear ha hn hz
  go_enter Tryz.func30, Tryz.ntmps30
  go_wp2
  refine wp_loop_rounds 1 ?_
  rw [rounds_succ]
  go_wp2
  go_ret
  exact ⟨by simp [endP], rfl⟩
 ·obtain ⟨g, cap, rfl⟩ : ∃ g cap, va = .slice (some ⟨g, 0, none⟩) ps.length cap := by
   rcases ha.form with ⟨_, h⟩ | ⟨g, cap, h, _⟩
   ·have := congrArg List.length h; simp [markP_length] at this; simp [this] at hz
   ·exact ⟨g, cap, by rw [h, markP_length]⟩
  have H1 : Hid (endP k0 ps ≤ 1125899906842624) := h1
  have HA : Hid (OwnP base 82 5 w (.slice (some ⟨g, 0, none⟩) ps.length cap) (markP k0 ps)) := ha
  clear h1 ha
  generalize hl : ps.length = len at hn hz HA ⊢
  have HL : Hid (ps.length = len) := hl
  clear hl
  go_enter Tryz.func30, Tryz.ntmps30
  go_wp2
  go_loop [1, 5] (fun v i => ∃ (k : Nat) (c : Int), k ≤ len ∧ i = .int .i64 k ∧ v = .int .i64 c ∧ Hid (c = endP k0 (ps.take k))) (fun _ i => len - (intOf i).toNat)
  case atStart => exact ⟨0, k0, Nat.zero_le _, rfl, rfl, rfl⟩
  case round =>
   obtain ⟨k, c, hk, rfl, rfl, HC⟩ := hrel
   by_cases hlt : k < len
   ·have hlp : k < ps.length := by rw [HL.out]; exact hlt
    have hlm : k < (markP k0 ps).length := by rw [markP_length]; exact hlp
    have hc : w.cell? ⟨g, k * 2, none⟩ = some (.int .i64 c) := by rw [HA.out.sec (by rw [markP_length]; exact HL.out.symm) k hlm, markP_at _ _ _ hlp, ← HC.out]
    have hv : w.cell? ⟨g, k * 2 + 1, none⟩ = some ps[k].v := by rw [HA.out.val (by rw [markP_length]; exact HL.out.symm) k hlm, markP_at _ _ _ hlp]
    have hd := HA.out.data _ (List.getElem_mem hlm)
    rw [markP_at _ _ _ hlp, ← HC.out] at hd
    have HD : Hid (Own base 5 .u8 w ps[k].v (marks (c + 1) ps[k].bs.length)) := hd
    have hc0 : k0 ≤ c := by rw [HC.out]; exact endP_le _ _
    have hc1 : c + 1 + ps[k].bs.length ≤ 1125899906842624 := by rw [HC.out, ← endP_step k0 ps k hlp]; exact Int.le_trans (endP_take_le _ _ _) H1.out
    clear hd
    go_wp2_with fail
    refine (heldByteS_own base ps[k].v ps[k].bs.length (c + 1) _ (by omega) (by omega) (by omega) HD.out).mono ?_
    rintro e w1 ⟨rfl, rfl⟩
    go_wp2
    go_round
    case rel => exact ⟨k + 1, c + 1 + ps[k].bs.length, by omega, by go_num, rfl, by rw [endP_step _ _ _ hlp, ← HC.out]; rfl⟩
    case measure => simp [intOf]; omega
   ·go_wp2
    go_ret
    obtain rfl : k = len := by omega
    have hl := HL.out
    have hc := HC.out
    rw [← hl, List.take_length] at hc
    exact ⟨ret_int hc, rfl⟩
theorem eqSectorWrite_own (base : Nat) (sec : Int) (va vb : Value) (bs : List Int) (w : World) (hn : bs.length ≤ 1125899906842624)
  (ha : Own base 5 .u8 w va bs) (hb : Own base 5 .u8 w vb bs) :
  Calls Tryz.prog 51 #[.agg #[.int .i64 sec, va], .agg #[.int .i64 sec, vb]] w fun e w' => e = .returned (.bool true) ∧ Same w w' := by
 obtain ⟨aa, na, ca, rfl⟩ : ∃ aa na ca, va = .slice aa na ca := by rcases ha.form with ⟨rfl, _⟩ | ⟨g, cap, rfl, _⟩ <;> exact ⟨_, _, _, rfl⟩
 obtain ⟨ab, nb, cb, rfl⟩ : ∃ aa na ca, vb = .slice aa na ca := by rcases hb.form with ⟨rfl, _⟩ | ⟨g, cap, rfl, _⟩ <;> exact ⟨_, _, _, rfl⟩
 have HA : Hid (Own base 5 .u8 w (.slice aa na ca) bs) := ha
 have HB : Hid (Own base 5 .u8 w (.slice ab nb cb) bs) := hb
 clear ha hb
 go_enter Tryz.func51, Tryz.ntmps51
 go_wp2_with fail
 refine (eqByteS_own base _ _ bs _ hn (HA.out.same (((Kept.refl _ _).alloc _).alloc _)) (HB.out.same (((Kept.refl _ _).alloc _).alloc _))).mono ?_
 rintro e w1 ⟨rfl, n1, rfl⟩
 go_wp2
 go_ret
 exact ⟨rfl, (((Kept.refl _ _).alloc _).alloc _).drewN _⟩
theorem eqSectorWriteS_own (base : Nat) (va vb : Value) (ps qs : List PW) (w : World) (hn : ps.length ≤ 1125899906842624) (hs : dataP ps = dataP qs) (hsm : ∀ p ∈ ps, p.bs.length ≤ 1125899906842624)
  (ha : OwnP base 82 5 w va ps) (hb : OwnP base 82 5 w vb qs) :
  Calls Tryz.prog 26 #[va, vb] w fun e w' => e = .returned (.bool true) ∧ Same w w' := by
 have hlen : qs.length = ps.length := by rw [← dataP_length, ← dataP_length, hs]
 by_cases hz : ps.length = 0
 ·obtain rfl : ps = [] := List.length_eq_zero_iff.1 hz
  obtain rfl : qs = [] := List.length_eq_zero_iff.1 hlen
  obtain ⟨aa, ca, rfl⟩ : ∃ aa ca, va = .slice aa 0 ca := by rcases ha.form with ⟨rfl, _⟩ | ⟨g, cap, rfl, _⟩ <;> exact ⟨_, _, rfl⟩
  obtain ⟨ab, cb, rfl⟩ : ∃ aa ca, vb = .slice aa 0 ca := by rcases hb.form with ⟨rfl, _⟩ | ⟨g, cap, rfl, _⟩ <;> exact ⟨_, _, rfl⟩
  clear ha hb hn hz hs
  go_enter Tryz.func26, Tryz.ntmps26
  go_wp2
  refine wp_loop_rounds 1 ?_
  rw [rounds_succ]
  go_wp2
  go_ret
  exact ⟨rfl, Kept.refl _ _⟩
 ·obtain ⟨ga, ca, rfl⟩ : ∃ g cap, va = .slice (some ⟨g, 0, none⟩) ps.length cap := by
   rcases ha.form with ⟨_, h⟩ | ⟨g, cap, h, _⟩
   ·simp [h] at hz
   ·exact ⟨g, cap, h⟩
  obtain ⟨gb, cb, rfl⟩ : ∃ g cap, vb = .slice (some ⟨g, 0, none⟩) ps.length cap := by
   rcases hb.form with ⟨_, h⟩ | ⟨g, cap, h, _⟩
   ·simp [h] at hlen; omega
   ·exact ⟨g, cap, by rw [h, hlen]⟩
  have HA : Hid (OwnP base 82 5 w (.slice (some ⟨ga, 0, none⟩) ps.length ca) ps) := ha
  have HB : Hid (OwnP base 82 5 w (.slice (some ⟨gb, 0, none⟩) ps.length cb) qs) := hb
  have HQ : Hid (qs.length = ps.length) := hlen
  have HS : Hid (dataP ps = dataP qs) := hs
  have HM : Hid (∀ p ∈ ps, p.bs.length ≤ 1125899906842624) := hsm
  clear ha hb hs hlen hsm
  generalize hl : ps.length = len at hn hz HA HB ⊢
  have HL : Hid (ps.length = len) := hl
  clear hl
  go_enter Tryz.func26, Tryz.ntmps26
  go_wp2
  go_loopw [5] (fun i wr => ∃ (k : Nat), k ≤ len ∧ i = .int .i64 k ∧ Hid (Same w wr)) (fun i _ => len - (intOf i).toNat)
  case atStart => exact ⟨0, Nat.zero_le _, rfl, Kept.refl _ _⟩
  case round =>
   obtain ⟨k, hk, rfl, HK⟩ := hrel
   by_cases hlt : k < len
   ·have hlp : k < ps.length := by rw [HL.out]; exact hlt
    have hlq : k < qs.length := by rw [HQ.out]; exact hlp
    have hoa := HA.out.same HK.out
    have hob := HB.out.same HK.out
    obtain ⟨s1, s2⟩ := dataP_at HS.out k hlp hlq
    have s3 := HM.out _ (List.getElem_mem hlp)
    have ha1 : wr.cell? ⟨ga, k * 2, none⟩ = some (.int .i64 ps[k].sec) := hoa.sec HL.out.symm k hlp
    have ha2 : wr.cell? ⟨ga, k * 2 + 1, none⟩ = some ps[k].v := hoa.val HL.out.symm k hlp
    have hb1 : wr.cell? ⟨gb, k * 2, none⟩ = some (.int .i64 ps[k].sec) := by rw [hob.sec (by rw [HQ.out, HL.out]) k hlq, s1]
    have hb2 : wr.cell? ⟨gb, k * 2 + 1, none⟩ = some qs[k].v := hob.val (by rw [HQ.out, HL.out]) k hlq
    have HDA : Hid (Own base 5 .u8 wr ps[k].v ps[k].bs) := hoa.data _ (List.getElem_mem hlp)
    have HDB : Hid (Own base 5 .u8 wr qs[k].v ps[k].bs) := by have := hob.data _ (List.getElem_mem hlq); rw [← s2] at this; exact this
    clear s1 s2 hoa hob
    go_wp2_with fail
    go_region_with (go_at_call 51; refine (eqSectorWrite_own base ps[k].sec ps[k].v qs[k].v ps[k].bs _ s3 (by exact HDA.out.same (Kept.refl _ _).drew) (by exact HDB.out.same (Kept.refl _ _).drew)).mono ?_; rintro e w1 ⟨rfl, hk1⟩)
    all_goals
     have HK1 : Hid (Same w w1) := HK.out.drew.trans hk1
     clear hk1 ha1 ha2 hb1 hb2 HDA HDB
     go_wp2
     go_roundw
     case rel => exact ⟨k + 1, by omega, by go_num, HK1⟩
     case measure => simp [intOf]; omega
   ·go_wp2
    go_ret
    exact ⟨rfl, HK.out⟩
theorem slice_of_ownP {base : Nat} {tw tb : TypeId} {w : World} {v : Value} {ps : List PW} (h : OwnP base tw tb w v ps) : ∃ aa na ca, v = .slice aa na ca := by
 rcases h.form with ⟨rfl, _⟩ | ⟨g, cap, rfl, _⟩ <;> exact ⟨_, _, _, rfl⟩
theorem eqDisk_own (base : Nat) (dv pv dv' pv' : Value) (dur : List Int) (ps qs : List PW) (w : World) (hd : dur.length ≤ 1125899906842624) (hn : ps.length ≤ 1125899906842624)
  (hs : dataP ps = dataP qs) (hsm : ∀ p ∈ ps, p.bs.length ≤ 1125899906842624)
  (ha : OwnD base 82 5 w dv pv dur ps) (hb : OwnD base 82 5 w dv' pv' dur qs) :
  Calls Tryz.prog 7 #[.agg #[dv, pv], .agg #[dv', pv']] w fun e w' => e = .returned (.bool true) ∧ Same w w' := by
 obtain ⟨a1, n1, c1, rfl⟩ := slice_of_own ha.dur
 obtain ⟨a2, n2, c2, rfl⟩ := slice_of_ownP ha.pend
 obtain ⟨a3, n3, c3, rfl⟩ := slice_of_own hb.dur
 obtain ⟨a4, n4, c4, rfl⟩ := slice_of_ownP hb.pend
 have HA := (show Hid (OwnD base 82 5 w _ _ dur ps) from ha)
 have HB := (show Hid (OwnD base 82 5 w _ _ dur qs) from hb)
 have HS : Hid (dataP ps = dataP qs) := hs
 have HM : Hid (∀ p ∈ ps, p.bs.length ≤ 1125899906842624) := hsm
 clear ha hb hs hsm
 go_enter Tryz.func7, Tryz.ntmps7
 go_wp2_with fail
 refine (eqByteS_own base _ _ dur _ hd (HA.out.dur.same (((Kept.refl _ _).alloc _).alloc _)) (HB.out.dur.same (((Kept.refl _ _).alloc _).alloc _))).mono ?_
 rintro e w1 ⟨rfl, m1, rfl⟩
 go_wp2_with fail
 refine (eqSectorWriteS_own base _ _ ps qs _ hn HS.out HM.out (HA.out.pend.same ((((Kept.refl _ _).alloc _).alloc _).drewN _)) (HB.out.pend.same ((((Kept.refl _ _).alloc _).alloc _).drewN _))).mono ?_
 rintro e w2 ⟨rfl, hk2⟩
 go_wp2
 go_ret
 exact ⟨rfl, ((((Kept.refl _ _).alloc _).alloc _).drewN _).trans hk2⟩
theorem markDisk_own (base : Nat) (dv pv : Value) (dur : List Int) (ps : List PW) (k0 : Int) (w : World) (h0 : 0 ≤ k0) (h1 : endP (k0 + dur.length) ps ≤ 1125899906842624) (hn : ps.length ≤ 1125899906842624)
  (ha : OwnD base 82 5 w dv pv dur ps) :
  Calls Tryz.prog 8 #[.agg #[dv, pv], .int .i64 k0] w fun e w' => e = .returned (.int .i64 (endP (k0 + dur.length) ps)) ∧
   OwnD base 82 5 w' dv pv (marks k0 dur.length) (markP (k0 + dur.length) ps) ∧ Kept (footD dv pv ps) w w' := by
 have hle := endP_le (k0 + dur.length) ps
 obtain ⟨a1, n1, c1, rfl⟩ := slice_of_own ha.dur
 obtain ⟨a2, n2, c2, rfl⟩ := slice_of_ownP ha.pend
 have HA := (show Hid (OwnD base 82 5 w _ _ dur ps) from ha)
 have H1 : Hid (endP (k0 + dur.length) ps ≤ 1125899906842624) := h1
 have hb1 : k0 + dur.length ≤ 1125899906842624 := by omega
 have hlt := HA.out.lt
 have HLT : Hid (∀ b, footD (.slice a1 n1 c1) (.slice a2 n2 c2) ps b → base ≤ b ∧ b < w.heap.size) := hlt
 clear ha h1 hle hlt
 go_enter Tryz.func8, Tryz.ntmps8
 go_wp2_with fail
 refine (markByteS_own base _ dur k0 _ (by omega) (by omega) (by omega) (HA.out.dur.same ((Kept.refl _ _).alloc _))).mono ?_
 rintro e w1 ⟨rfl, ho1, hk1⟩
 have hc : w1.cell? ⟨w.heap.size, 1, none⟩ = some (.slice a2 n2 c2) := by
  rw [hk1.cell (by simp) (fun e => by have := (HLT.out w.heap.size (.inl e)).2; omega)]; simp
 have HO1 : Hid (OwnP base 82 5 w1 (.slice a2 n2 c2) ps) :=
  (HA.out.pend.same ((Kept.refl _ _).alloc _)).kept hk1 (fun b hb e => HA.out.apart b hb e)
 have HK1 : Hid (Kept (fun b => (Value.slice a1 n1 c1).ownBlock = some b) w w1) := ((Kept.refl _ _).alloc _).trans hk1
 have HD1 : Hid (Own base 5 .u8 w1 (.slice a1 n1 c1) (marks k0 dur.length)) := ho1
 clear ho1 hk1
 go_wp2_with fail
 refine (markSectorWriteS_own base _ ps (k0 + dur.length) _ (by omega) H1.out hn HO1.out).mono ?_
 rintro e w2 ⟨rfl, ho2, hk2⟩
 have HF : Hid (OwnD base 82 5 w2 (.slice a1 n1 c1) (.slice a2 n2 c2) (marks k0 dur.length) (markP (k0 + dur.length) ps) ∧ Kept (footD (.slice a1 n1 c1) (.slice a2 n2 c2) ps) w w2) :=
  ⟨⟨HD1.out.kept hk2 (fun b hb e => HA.out.apart b e hb), ho2, fun b hb => HA.out.apart b ((footP_v (markP_v _ _) b).1 hb)⟩,
   (HK1.out.mono (fun b _ e => .inl e)).trans (hk2.mono (fun b _ e => .inr e))⟩
 clear ho2 hk2 hc HO1 HK1 HD1
 go_wp2
 go_ret
 exact ⟨rfl, HF.out⟩
theorem heldDisk_own (base : Nat) (dv pv : Value) (dur : List Int) (ps : List PW) (k0 : Int) (w : World) (h0 : 0 ≤ k0) (h1 : endP (k0 + dur.length) ps ≤ 1125899906842624) (hn : ps.length ≤ 1125899906842624)
  (ha : OwnD base 82 5 w dv pv (marks k0 dur.length) (markP (k0 + dur.length) ps)) :
  Calls Tryz.prog 9 #[.agg #[dv, pv], .int .i64 k0] w fun e w' => e = .returned (.int .i64 (endP (k0 + dur.length) ps)) ∧ Same w w' := by
 have hle := endP_le (k0 + dur.length) ps
 obtain ⟨a1, n1, c1, rfl⟩ := slice_of_own ha.dur
 obtain ⟨a2, n2, c2, rfl⟩ := slice_of_ownP ha.pend
 have HA := (show Hid (OwnD base 82 5 w _ _ (marks k0 dur.length) (markP (k0 + dur.length) ps)) from ha)
 have H1 : Hid (endP (k0 + dur.length) ps ≤ 1125899906842624) := h1
 have hb1 : k0 + dur.length ≤ 1125899906842624 := by omega
 clear ha h1
 go_enter Tryz.func9, Tryz.ntmps9
 go_wp2_with fail
 refine (heldByteS_own base _ dur.length k0 _ (by omega) (by omega) (by omega) (HA.out.dur.same ((Kept.refl _ _).alloc _))).mono ?_
 rintro e w1 ⟨rfl, rfl⟩
 go_wp2_with fail
 refine (heldSectorWriteS_own base _ ps (k0 + dur.length) _ (by omega) H1.out hn (HA.out.pend.same ((Kept.refl _ _).alloc _))).mono ?_
 rintro e w2 ⟨rfl, rfl⟩
 go_wp2
 go_ret
 exact ⟨rfl, (Kept.refl _ _).alloc _⟩
theorem Tryz.infoByte : (Tryz.prog.info? 5).map (fun i => (i.zero, i.size, i.bytes)) = some (some (.int .u8 0), 1, 1) := by kernel_rfl
theorem newDisk_yes (s : Int) (w : World) (h1 : 1 ≤ s) (h2 : s ≤ 1024) :
  Calls Tryz.prog 19 #[.int .i64 s] w fun e w' => ∃ g, e = .returned (.agg #[.slice (some ⟨g, 0, none⟩) (s.toNat * 512) (s.toNat * 512), .slice none 0 0]) ∧ w.heap.size ≤ g ∧
   Own 0 5 .u8 w' (.slice (some ⟨g, 0, none⟩) (s.toNat * 512) (s.toNat * 512)) (List.replicate (s.toNat * 512) 0) ∧ Same w w' := by
 obtain ⟨n, rfl⟩ : ∃ n : Nat, s = n := ⟨s.toNat, by omega⟩
 obtain ⟨i0, hi, hz0, hz1, hz2⟩ := info_parts Tryz.infoByte
 have h1' : ¬ (n : Int) < 1 := by omega
 go_enter Tryz.func19, Tryz.ntmps19
 go_wp2_with (at_make; refine wpList_make_full _ rfl (.tmp 11) (.tmp 11) 24 rfl 0 5 i0 (.int .u8 0) 1 Tryz.underlying24 hi hz0 hz1 .i64 .i64 _ _ (n * 512) rfl rfl (by simp) (by simp) (by rw [hz2]; omega) (by unfold maxLen; omega) (Nat.zero_le _) ?_; intro w1 hown1 hgrow1; have HO : Hid (Own 0 5 .u8 w1 (.slice (some ⟨w.heap.size + 1, 0, none⟩) (n * 512) (n * 512)) (List.replicate (n * 512) 0)) := own_made (by simpa using hown1); have HK : Hid (Same w w1) := ((Kept.refl _ _).alloc _).grown hgrow1 (fun k e => by cases e); obtain ⟨q1, q2, q3, q4, q5⟩ := kept_two (Kept.of_grown (R := fun _ => False) hgrow1 (fun k e => by cases e)) id; clear hown1 hgrow1)
 refine bodyPost_ret (v := .agg #[.slice (some ⟨w.heap.size + 1, 0, none⟩) (n * 512) (n * 512), .slice none 0 0]) (by simp [results, Tryz.results19, go_sem, q1, q2]) rfl ⟨w.heap.size + 1, by simp, by omega, ?_, ?_⟩
 ·exact HO.out.kept (R := fun b => b = w.heap.size) ((Kept.refl (fun b => b = w.heap.size) _).setTwo (.inr rfl) _ _) (fun b hb e => by simp [Value.ownBlock] at hb; omega)
 ·exact HK.out.setTwo (.inl (Nat.le_refl _)) _ _
theorem specNewDisk_yes (s : Int) (w : World) (h1 : 1 ≤ s) (h2 : s ≤ 1024) :
  Calls Tryz.prog 11 #[.int .i64 s] w fun e w' => ∃ g, e = .returned (.agg #[.slice (some ⟨g, 0, none⟩) (s.toNat * 512) (s.toNat * 512), .slice none 0 0]) ∧ w.heap.size ≤ g ∧
   Own 0 5 .u8 w' (.slice (some ⟨g, 0, none⟩) (s.toNat * 512) (s.toNat * 512)) (List.replicate (s.toNat * 512) 0) ∧ Same w w' := by
 obtain ⟨n, rfl⟩ : ∃ n : Nat, s = n := ⟨s.toNat, by omega⟩
 obtain ⟨i0, hi, hz0, hz1, hz2⟩ := info_parts Tryz.infoByte
 have h1' : ¬ (n : Int) < 1 := by omega
 go_enter Tryz.func11, Tryz.ntmps11
 go_wp2_with (at_make; refine wpList_make_full _ rfl (.tmp 11) (.tmp 11) 24 rfl 0 5 i0 (.int .u8 0) 1 Tryz.underlying24 hi hz0 hz1 .i64 .i64 _ _ (n * 512) rfl rfl (by simp) (by simp) (by rw [hz2]; omega) (by unfold maxLen; omega) (Nat.zero_le _) ?_; intro w1 hown1 hgrow1; have HO : Hid (Own 0 5 .u8 w1 (.slice (some ⟨w.heap.size + 1, 0, none⟩) (n * 512) (n * 512)) (List.replicate (n * 512) 0)) := own_made (by simpa using hown1); have HK : Hid (Same w w1) := ((Kept.refl _ _).alloc _).grown hgrow1 (fun k e => by cases e); obtain ⟨q1, q2, q3, q4, q5⟩ := kept_two (Kept.of_grown (R := fun _ => False) hgrow1 (fun k e => by cases e)) id; clear hown1 hgrow1)
 refine bodyPost_ret (v := .agg #[.slice (some ⟨w.heap.size + 1, 0, none⟩) (n * 512) (n * 512), .slice none 0 0]) (by simp [results, Tryz.results11, go_sem, q1, q2]) rfl ⟨w.heap.size + 1, by simp, by omega, ?_, ?_⟩
 ·exact HO.out.kept (R := fun b => b = w.heap.size) ((Kept.refl (fun b => b = w.heap.size) _).setTwo (.inr rfl) _ _) (fun b hb e => by simp [Value.ownBlock] at hb; omega)
 ·exact HK.out.setTwo (.inl (Nat.le_refl _)) _ _
def sh (r : Nat) : Nat := if r % 2 = 1 then r / 2 ^^^ 3988292384 else r / 2
def shN : Nat → Nat → Nat
 | 0, r => r
 | k + 1, r => shN k (sh r)
theorem sh_lt (r : Nat) (h : r < 4294967296) : sh r < 4294967296 := by
 unfold sh
 split
 ·exact Nat.xor_lt_two_pow (n := 32) (by omega) (by omega)
 ·omega
theorem shN_lt (k r : Nat) (h : r < 4294967296) : shN k r < 4294967296 := by
 induction k generalizing r with
 | zero => exact h
 | succ k ih => exact ih _ (sh_lt r h)
theorem shN_succ (k r : Nat) : shN (k + 1) r = sh (shN k r) := by
 induction k generalizing r with
 | zero => rfl
 | succ k ih => exact ih (sh r)
theorem half_xor (a b : Nat) : (a ^^^ b) / 2 = a / 2 ^^^ b / 2 := by
 apply Nat.eq_of_testBit_eq
 intro i
 rw [Nat.testBit_xor, Nat.testBit_div_two, Nat.testBit_div_two, Nat.testBit_div_two, Nat.testBit_xor]
theorem odd_xor (a b : Nat) : (a ^^^ b) % 2 = (a % 2 + b % 2) % 2 := by
 have h := Nat.testBit_xor a b 0
 simp only [Nat.testBit_zero] at h
 have := Nat.mod_two_eq_zero_or_one a
 have := Nat.mod_two_eq_zero_or_one b
 have := Nat.mod_two_eq_zero_or_one (a ^^^ b)
 rcases ‹a % 2 = 0 ∨ a % 2 = 1› with h1 | h1 <;> rcases ‹b % 2 = 0 ∨ b % 2 = 1› with h2 | h2 <;> rcases ‹(a ^^^ b) % 2 = 0 ∨ (a ^^^ b) % 2 = 1› with h3 | h3 <;> rw [h1, h2, h3] at h <;> rw [h1, h2, h3] <;> first | rfl | (simp at h)
theorem sh_xor (a b : Nat) : sh (a ^^^ b) = sh a ^^^ sh b := by
 unfold sh
 rw [half_xor, odd_xor]
 have := Nat.mod_two_eq_zero_or_one a
 have := Nat.mod_two_eq_zero_or_one b
 rcases ‹a % 2 = 0 ∨ a % 2 = 1› with h1 | h1 <;> rcases ‹b % 2 = 0 ∨ b % 2 = 1› with h2 | h2 <;> rw [h1, h2] <;> simp only [Nat.zero_add, Nat.add_zero, Nat.reduceMod, Nat.reduceAdd, if_true, if_false, Nat.zero_ne_one]
 ·rw [Nat.xor_assoc]
 ·rw [Nat.xor_assoc, Nat.xor_assoc, Nat.xor_comm 3988292384]
 ·rw [Nat.xor_assoc, Nat.xor_comm (b / 2), ← Nat.xor_assoc 3988292384, Nat.xor_self, Nat.zero_xor]
theorem shN_xor (k a b : Nat) : shN k (a ^^^ b) = shN k a ^^^ shN k b := by
 induction k generalizing a b with
 | zero => rfl
 | succ k ih => simp only [shN]; rw [sh_xor, ih]
theorem sh_even (r : Nat) : sh (2 * r) = r := by
 unfold sh
 rw [if_neg (by omega)]
 omega
theorem shN_mul (k r : Nat) : shN k (2 ^ k * r) = r := by
 induction k generalizing r with
 | zero => simp [shN]
 | succ k ih =>
  simp only [shN]
  rw [show 2 ^ (k + 1) * r = 2 * (2 ^ k * r) from by rw [Nat.pow_succ, Nat.mul_comm (2 ^ k) 2, Nat.mul_assoc], sh_even, ih]
def tab (i : Nat) : Nat := shN 8 i
theorem tab_lt (i : Nat) (h : i < 4294967296) : tab i < 4294967296 := shN_lt 8 i h
theorem parts_xor (r : Nat) : r = 2 ^ 8 * (r / 256) ^^^ r % 256 := by
 have h1 : 2 ^ 8 * (r / 256) ||| r % 256 = 2 ^ 8 * (r / 256) + r % 256 := (Nat.two_pow_add_eq_or_of_lt (i := 8) (by omega) (r / 256)).symm
 have h2 : 2 ^ 8 * (r / 256) &&& r % 256 = 0 := by
  apply Nat.eq_of_testBit_eq
  intro i
  rw [Nat.testBit_and, Nat.zero_testBit, Nat.testBit_two_pow_mul]
  by_cases hi : 8 ≤ i
  ·have : (r % 256).testBit i = false := Nat.testBit_lt_two_pow (Nat.lt_of_lt_of_le (Nat.mod_lt r (by decide)) (Nat.pow_le_pow_right (n := 2) (by decide) hi))
   simp [this]
  ·simp [hi]
 have h3 : 2 ^ 8 * (r / 256) ^^^ r % 256 = 2 ^ 8 * (r / 256) ||| r % 256 := by
  apply Nat.eq_of_testBit_eq
  intro i
  have := congrArg (fun n => n.testBit i) h2
  simp only [Nat.testBit_and, Nat.zero_testBit] at this
  rw [Nat.testBit_xor, Nat.testBit_or]
  revert this
  cases (2 ^ 8 * (r / 256)).testBit i <;> cases (r % 256).testBit i <;> simp
 rw [h3, h1]
 omega
theorem step_tab (r x : Nat) : shN 8 (r ^^^ x) = r / 256 ^^^ tab (r % 256 ^^^ x) := by
 conv => lhs; rw [parts_xor r]
 rw [Nat.xor_assoc, shN_xor, shN_mul]
 rfl
def reg (r : Nat) (bs : List Int) : Nat := bs.foldl (fun r b => shN 8 (r ^^^ b.toNat)) r
theorem reg_take (r : Nat) (bs : List Int) (k : Nat) (h : k < bs.length) : reg r (bs.take (k + 1)) = shN 8 (reg r (bs.take k) ^^^ (bs.getD k 0).toNat) := by
 rw [List.take_succ_eq_append_getElem h]
 unfold reg
 rw [List.foldl_append]
 simp [h]
theorem reg_lt (r : Nat) (bs : List Int) (h : r < 4294967296) (hb : IsB bs) : reg r bs < 4294967296 := by
 induction bs generalizing r with
 | nil => exact h
 | cons b bs ih =>
  have h1 := hb b (by simp)
  exact ih _ (shN_lt 8 _ (Nat.xor_lt_two_pow (n := 32) (by omega) (by omega))) (fun y hy => hb y (by simp [hy]))
def crcOn (sum : Int) (bs : List Int) : Int := if sum < 0 ∨ 4294967295 < sum then -1 else 4294967295 - reg (4294967295 - sum).toNat bs
/-! ### The table, as it is filled: m bits done, n entries of the next one -/
def tabM (m n : Nat) : List Int := (List.range 256).map fun j => if j % 2 ^ (8 - m) = 0 ∨ (j % 2 ^ (7 - m) = 0 ∧ j < 2 ^ (8 - m) * n) then ((tab j : Nat) : Int) else 0
theorem tabM_length (m n : Nat) : (tabM m n).length = 256 := by simp [tabM]
theorem tabM_at (m n j : Nat) (h : j < 256) : (tabM m n)[j]? = some (if j % 2 ^ (8 - m) = 0 ∨ (j % 2 ^ (7 - m) = 0 ∧ j < 2 ^ (8 - m) * n) then ((tab j : Nat) : Int) else 0) := by
 simp [tabM, h]
theorem tabM_zero : tabM 0 0 = List.replicate 256 0 := by decide +kernel
theorem tabM_next (m : Nat) (h : m < 8) : tabM m (2 ^ m) = tabM (m + 1) 0 := by
 have : ∀ m < 8, tabM m (2 ^ m) = tabM (m + 1) 0 := by decide +kernel
 exact this m h
theorem tabM_all (j : Nat) (h : j < 256) : (tabM 8 0)[j]? = some ((tab j : Nat) : Int) := by
 rw [tabM_at _ _ _ h, if_pos (.inl (by simp [Nat.mod_one]))]
theorem tabM_read (m n : Nat) (h : m < 8) (hn : n < 2 ^ m) : (tabM m n)[2 ^ (8 - m) * n]? = some ((tab (2 ^ (8 - m) * n) : Nat) : Int) := by
 have hb : 2 ^ (8 - m) * n < 256 := by
  have : 2 ^ (8 - m) * n < 2 ^ (8 - m) * 2 ^ m := Nat.mul_lt_mul_of_pos_left hn (Nat.two_pow_pos _)
  rwa [← Nat.pow_add, show 8 - m + m = 8 from by omega] at this
 rw [tabM_at _ _ _ hb, if_pos (.inl (Nat.mul_mod_right _ _))]
theorem tabM_step (m n : Nat) (h : m < 8) (hn : n < 2 ^ m) : (tabM m n).set (2 ^ (8 - m) * n + 2 ^ (7 - m)) ((tab (2 ^ (8 - m) * n) ^^^ shN (m + 1) 1 : Nat) : Int) = tabM m (n + 1) := by
 have key : ∀ m < 8, ∀ n < 2 ^ m, tab (2 ^ (8 - m) * n + 2 ^ (7 - m)) = tab (2 ^ (8 - m) * n) ^^^ shN (m + 1) 1 := by decide +kernel
 rw [← key m h n hn]
 apply List.ext_getElem?
 intro j
 by_cases hj : j < 256
 ·rw [tabM_at m (n + 1) j hj, List.getElem?_set, tabM_length, tabM_at m n j hj]
  clear key
  have : m = 0 ∨ m = 1 ∨ m = 2 ∨ m = 3 ∨ m = 4 ∨ m = 5 ∨ m = 6 ∨ m = 7 := by omega
  rcases this with rfl | rfl | rfl | rfl | rfl | rfl | rfl | rfl <;> simp only [Nat.reducePow, Nat.reduceSub] at hn ⊢ <;>
  (split
   ·rename_i he
    subst he
    rw [if_pos (by omega), if_pos (by omega)]
   ·congr 1
    apply ite_congr (propext ⟨fun h => by omega, fun h => by omega⟩) (fun _ => rfl) (fun _ => rfl))
 ·rw [List.getElem?_eq_none (by rw [List.length_set, tabM_length]; omega), List.getElem?_eq_none (by rw [tabM_length]; omega)]
end Go.Proofs.YtglokpakmlegbaaGreatDoor
