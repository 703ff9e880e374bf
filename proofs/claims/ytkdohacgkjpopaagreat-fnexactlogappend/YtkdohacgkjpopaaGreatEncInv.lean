import Derived.Test.YtkdohacgkjpopaaGreatG28
import Derived.Test.YtkdohacgkjpopaaGreatPlainRec
import Derived.Deep.RegionWith
import Derived.Deep.DeepMust
namespace Go.Proofs.YtkdohacgkjpopaaGreat
set_option linter.unusedVariables false
set_option linter.unusedSimpArgs false
open Go.RowKit
@[go_sem] theorem invk_1 (n : Nat) (txn prev page slot : Int) (bu : Bool) (ba : Option Addr) (bn bc : Nat) (au : Bool) (aa : Option Addr) (an ac : Nat) (w : World) : (method (n + 1) 115 (.agg #[.int .i64 txn, .int .i64 prev, .int .i64 page, .int .i64 slot, .bool bu, .slice ba bn bc, .bool au, .slice aa an ac]) "loop.example/s02544/impl.kind").run Tryz.prog w = .ok (84, .agg #[.int .i64 txn, .int .i64 prev, .int .i64 page, .int .i64 slot, .bool bu, .slice ba bn bc, .bool au, .slice aa an ac]) w := by kernel_rfl
@[go_sem] theorem invt_1 (n : Nat) (txn prev page slot : Int) (bu : Bool) (ba : Option Addr) (bn bc : Nat) (au : Bool) (aa : Option Addr) (an ac : Nat) (w : World) : (method (n + 1) 115 (.agg #[.int .i64 txn, .int .i64 prev, .int .i64 page, .int .i64 slot, .bool bu, .slice ba bn bc, .bool au, .slice aa an ac]) "loop.example/s02544/impl.transaction").run Tryz.prog w = .ok (85, .agg #[.int .i64 txn, .int .i64 prev]) w := by kernel_rfl
@[go_sem] theorem inva_1 (n : Nat) (txn prev page slot : Int) (bu : Bool) (ba : Option Addr) (bn bc : Nat) (au : Bool) (aa : Option Addr) (an ac : Nat) (w : World) : (method (n + 1) 115 (.agg #[.int .i64 txn, .int .i64 prev, .int .i64 page, .int .i64 slot, .bool bu, .slice ba bn bc, .bool au, .slice aa an ac]) "loop.example/s02544/impl.ahead").run Tryz.prog w = .ok (86, .agg #[.int .i64 txn, .int .i64 prev]) w := by kernel_rfl
@[go_sem] theorem invr_1 (n : Nat) (txn prev page slot : Int) (bu : Bool) (ba : Option Addr) (bn bc : Nat) (au : Bool) (aa : Option Addr) (an ac : Nat) (w : World) : (method (n + 1) 115 (.agg #[.int .i64 txn, .int .i64 prev, .int .i64 page, .int .i64 slot, .bool bu, .slice ba bn bc, .bool au, .slice aa an ac]) "loop.example/s02544/impl.appendRest").run Tryz.prog w = .ok (144, .agg #[.int .i64 txn, .int .i64 prev, .int .i64 page, .int .i64 slot, .bool bu, .slice ba bn bc, .bool au, .slice aa an ac]) w := by kernel_rfl
set_option maxRecDepth 100000 in
theorem kindI_1 (txn prev page slot : Int) (bu : Bool) (ba : Option Addr) (bn bc : Nat) (au : Bool) (aa : Option Addr) (an ac : Nat) (w : World) : Calls Tryz.prog 84 #[.agg #[.int .i64 txn, .int .i64 prev, .int .i64 page, .int .i64 slot, .bool bu, .slice ba bn bc, .bool au, .slice aa an ac]] w fun e w' => e = .returned (.int .i64 1) ∧ Same w w' := by
 go_enter Tryz.func84, Tryz.ntmps84
 go_wp2
 go_ret
 exact ⟨rfl, (Kept.refl _ _).alloc _⟩
@[go_sem] theorem invk_2 (n : Nat) (txn prev page slot : Int) (au : Bool) (aa : Option Addr) (an ac : Nat) (un : Int) (w : World) : (method (n + 1) 117 (.agg #[.int .i64 txn, .int .i64 prev, .int .i64 page, .int .i64 slot, .bool au, .slice aa an ac, .int .i64 un]) "loop.example/s02544/impl.kind").run Tryz.prog w = .ok (87, .agg #[.int .i64 txn, .int .i64 prev, .int .i64 page, .int .i64 slot, .bool au, .slice aa an ac, .int .i64 un]) w := by kernel_rfl
@[go_sem] theorem invt_2 (n : Nat) (txn prev page slot : Int) (au : Bool) (aa : Option Addr) (an ac : Nat) (un : Int) (w : World) : (method (n + 1) 117 (.agg #[.int .i64 txn, .int .i64 prev, .int .i64 page, .int .i64 slot, .bool au, .slice aa an ac, .int .i64 un]) "loop.example/s02544/impl.transaction").run Tryz.prog w = .ok (85, .agg #[.int .i64 txn, .int .i64 prev]) w := by kernel_rfl
@[go_sem] theorem inva_2 (n : Nat) (txn prev page slot : Int) (au : Bool) (aa : Option Addr) (an ac : Nat) (un : Int) (w : World) : (method (n + 1) 117 (.agg #[.int .i64 txn, .int .i64 prev, .int .i64 page, .int .i64 slot, .bool au, .slice aa an ac, .int .i64 un]) "loop.example/s02544/impl.ahead").run Tryz.prog w = .ok (86, .agg #[.int .i64 txn, .int .i64 prev]) w := by kernel_rfl
@[go_sem] theorem invr_2 (n : Nat) (txn prev page slot : Int) (au : Bool) (aa : Option Addr) (an ac : Nat) (un : Int) (w : World) : (method (n + 1) 117 (.agg #[.int .i64 txn, .int .i64 prev, .int .i64 page, .int .i64 slot, .bool au, .slice aa an ac, .int .i64 un]) "loop.example/s02544/impl.appendRest").run Tryz.prog w = .ok (150, .agg #[.int .i64 txn, .int .i64 prev, .int .i64 page, .int .i64 slot, .bool au, .slice aa an ac, .int .i64 un]) w := by kernel_rfl
set_option maxRecDepth 100000 in
theorem kindI_2 (txn prev page slot : Int) (au : Bool) (aa : Option Addr) (an ac : Nat) (un : Int) (w : World) : Calls Tryz.prog 87 #[.agg #[.int .i64 txn, .int .i64 prev, .int .i64 page, .int .i64 slot, .bool au, .slice aa an ac, .int .i64 un]] w fun e w' => e = .returned (.int .i64 2) ∧ Same w w' := by
 go_enter Tryz.func87, Tryz.ntmps87
 go_wp2
 go_ret
 exact ⟨rfl, (Kept.refl _ _).alloc _⟩
@[go_sem] theorem invk_3 (n : Nat) (txn prev : Int) (w : World) : (method (n + 1) 119 (.agg #[.int .i64 txn, .int .i64 prev]) "loop.example/s02544/impl.kind").run Tryz.prog w = .ok (88, .agg #[.int .i64 txn, .int .i64 prev]) w := by kernel_rfl
@[go_sem] theorem invt_3 (n : Nat) (txn prev : Int) (w : World) : (method (n + 1) 119 (.agg #[.int .i64 txn, .int .i64 prev]) "loop.example/s02544/impl.transaction").run Tryz.prog w = .ok (85, .agg #[.int .i64 txn, .int .i64 prev]) w := by kernel_rfl
@[go_sem] theorem inva_3 (n : Nat) (txn prev : Int) (w : World) : (method (n + 1) 119 (.agg #[.int .i64 txn, .int .i64 prev]) "loop.example/s02544/impl.ahead").run Tryz.prog w = .ok (86, .agg #[.int .i64 txn, .int .i64 prev]) w := by kernel_rfl
@[go_sem] theorem invr_3 (n : Nat) (txn prev : Int) (w : World) : (method (n + 1) 119 (.agg #[.int .i64 txn, .int .i64 prev]) "loop.example/s02544/impl.appendRest").run Tryz.prog w = .ok (137, .agg #[.int .i64 txn, .int .i64 prev]) w := by kernel_rfl
set_option maxRecDepth 100000 in
theorem kindI_3 (txn prev : Int) (w : World) : Calls Tryz.prog 88 #[.agg #[.int .i64 txn, .int .i64 prev]] w fun e w' => e = .returned (.int .i64 3) ∧ Same w w' := by
 go_enter Tryz.func88, Tryz.ntmps88
 go_wp2
 go_ret
 exact ⟨rfl, (Kept.refl _ _).alloc _⟩
@[go_sem] theorem invk_4 (n : Nat) (txn prev : Int) (w : World) : (method (n + 1) 120 (.agg #[.int .i64 txn, .int .i64 prev]) "loop.example/s02544/impl.kind").run Tryz.prog w = .ok (89, .agg #[.int .i64 txn, .int .i64 prev]) w := by kernel_rfl
@[go_sem] theorem invt_4 (n : Nat) (txn prev : Int) (w : World) : (method (n + 1) 120 (.agg #[.int .i64 txn, .int .i64 prev]) "loop.example/s02544/impl.transaction").run Tryz.prog w = .ok (85, .agg #[.int .i64 txn, .int .i64 prev]) w := by kernel_rfl
@[go_sem] theorem inva_4 (n : Nat) (txn prev : Int) (w : World) : (method (n + 1) 120 (.agg #[.int .i64 txn, .int .i64 prev]) "loop.example/s02544/impl.ahead").run Tryz.prog w = .ok (86, .agg #[.int .i64 txn, .int .i64 prev]) w := by kernel_rfl
@[go_sem] theorem invr_4 (n : Nat) (txn prev : Int) (w : World) : (method (n + 1) 120 (.agg #[.int .i64 txn, .int .i64 prev]) "loop.example/s02544/impl.appendRest").run Tryz.prog w = .ok (137, .agg #[.int .i64 txn, .int .i64 prev]) w := by kernel_rfl
set_option maxRecDepth 100000 in
theorem kindI_4 (txn prev : Int) (w : World) : Calls Tryz.prog 89 #[.agg #[.int .i64 txn, .int .i64 prev]] w fun e w' => e = .returned (.int .i64 4) ∧ Same w w' := by
 go_enter Tryz.func89, Tryz.ntmps89
 go_wp2
 go_ret
 exact ⟨rfl, (Kept.refl _ _).alloc _⟩
@[go_sem] theorem invk_5 (n : Nat) (txn prev : Int) (w : World) : (method (n + 1) 121 (.agg #[.int .i64 txn, .int .i64 prev]) "loop.example/s02544/impl.kind").run Tryz.prog w = .ok (90, .agg #[.int .i64 txn, .int .i64 prev]) w := by kernel_rfl
@[go_sem] theorem invt_5 (n : Nat) (txn prev : Int) (w : World) : (method (n + 1) 121 (.agg #[.int .i64 txn, .int .i64 prev]) "loop.example/s02544/impl.transaction").run Tryz.prog w = .ok (85, .agg #[.int .i64 txn, .int .i64 prev]) w := by kernel_rfl
@[go_sem] theorem inva_5 (n : Nat) (txn prev : Int) (w : World) : (method (n + 1) 121 (.agg #[.int .i64 txn, .int .i64 prev]) "loop.example/s02544/impl.ahead").run Tryz.prog w = .ok (86, .agg #[.int .i64 txn, .int .i64 prev]) w := by kernel_rfl
@[go_sem] theorem invr_5 (n : Nat) (txn prev : Int) (w : World) : (method (n + 1) 121 (.agg #[.int .i64 txn, .int .i64 prev]) "loop.example/s02544/impl.appendRest").run Tryz.prog w = .ok (137, .agg #[.int .i64 txn, .int .i64 prev]) w := by kernel_rfl
set_option maxRecDepth 100000 in
theorem kindI_5 (txn prev : Int) (w : World) : Calls Tryz.prog 90 #[.agg #[.int .i64 txn, .int .i64 prev]] w fun e w' => e = .returned (.int .i64 5) ∧ Same w w' := by
 go_enter Tryz.func90, Tryz.ntmps90
 go_wp2
 go_ret
 exact ⟨rfl, (Kept.refl _ _).alloc _⟩
@[go_sem] theorem invk_6 (n : Nat) (txn prev : Int) (w : World) : (method (n + 1) 122 (.agg #[.int .i64 txn, .int .i64 prev]) "loop.example/s02544/impl.kind").run Tryz.prog w = .ok (91, .agg #[.int .i64 txn, .int .i64 prev]) w := by kernel_rfl
@[go_sem] theorem invt_6 (n : Nat) (txn prev : Int) (w : World) : (method (n + 1) 122 (.agg #[.int .i64 txn, .int .i64 prev]) "loop.example/s02544/impl.transaction").run Tryz.prog w = .ok (85, .agg #[.int .i64 txn, .int .i64 prev]) w := by kernel_rfl
@[go_sem] theorem inva_6 (n : Nat) (txn prev : Int) (w : World) : (method (n + 1) 122 (.agg #[.int .i64 txn, .int .i64 prev]) "loop.example/s02544/impl.ahead").run Tryz.prog w = .ok (86, .agg #[.int .i64 txn, .int .i64 prev]) w := by kernel_rfl
@[go_sem] theorem invr_6 (n : Nat) (txn prev : Int) (w : World) : (method (n + 1) 122 (.agg #[.int .i64 txn, .int .i64 prev]) "loop.example/s02544/impl.appendRest").run Tryz.prog w = .ok (137, .agg #[.int .i64 txn, .int .i64 prev]) w := by kernel_rfl
set_option maxRecDepth 100000 in
theorem kindI_6 (txn prev : Int) (w : World) : Calls Tryz.prog 91 #[.agg #[.int .i64 txn, .int .i64 prev]] w fun e w' => e = .returned (.int .i64 6) ∧ Same w w' := by
 go_enter Tryz.func91, Tryz.ntmps91
 go_wp2
 go_ret
 exact ⟨rfl, (Kept.refl _ _).alloc _⟩
@[go_sem] theorem invk_7 (n : Nat) (txn prev nt : Int) (ta : Option Addr) (tn tc : Nat) (da : Option Addr) (dn dc : Nat) (w : World) : (method (n + 1) 124 (.agg #[.int .i64 txn, .int .i64 prev, .int .i64 nt, .slice ta tn tc, .slice da dn dc]) "loop.example/s02544/impl.kind").run Tryz.prog w = .ok (92, .agg #[.int .i64 txn, .int .i64 prev, .int .i64 nt, .slice ta tn tc, .slice da dn dc]) w := by kernel_rfl
@[go_sem] theorem invt_7 (n : Nat) (txn prev nt : Int) (ta : Option Addr) (tn tc : Nat) (da : Option Addr) (dn dc : Nat) (w : World) : (method (n + 1) 124 (.agg #[.int .i64 txn, .int .i64 prev, .int .i64 nt, .slice ta tn tc, .slice da dn dc]) "loop.example/s02544/impl.transaction").run Tryz.prog w = .ok (85, .agg #[.int .i64 txn, .int .i64 prev]) w := by kernel_rfl
@[go_sem] theorem inva_7 (n : Nat) (txn prev nt : Int) (ta : Option Addr) (tn tc : Nat) (da : Option Addr) (dn dc : Nat) (w : World) : (method (n + 1) 124 (.agg #[.int .i64 txn, .int .i64 prev, .int .i64 nt, .slice ta tn tc, .slice da dn dc]) "loop.example/s02544/impl.ahead").run Tryz.prog w = .ok (86, .agg #[.int .i64 txn, .int .i64 prev]) w := by kernel_rfl
@[go_sem] theorem invr_7 (n : Nat) (txn prev nt : Int) (ta : Option Addr) (tn tc : Nat) (da : Option Addr) (dn dc : Nat) (w : World) : (method (n + 1) 124 (.agg #[.int .i64 txn, .int .i64 prev, .int .i64 nt, .slice ta tn tc, .slice da dn dc]) "loop.example/s02544/impl.appendRest").run Tryz.prog w = .ok (153, .agg #[.int .i64 txn, .int .i64 prev, .int .i64 nt, .slice ta tn tc, .slice da dn dc]) w := by kernel_rfl
set_option maxRecDepth 100000 in
theorem kindI_7 (txn prev nt : Int) (ta : Option Addr) (tn tc : Nat) (da : Option Addr) (dn dc : Nat) (w : World) : Calls Tryz.prog 92 #[.agg #[.int .i64 txn, .int .i64 prev, .int .i64 nt, .slice ta tn tc, .slice da dn dc]] w fun e w' => e = .returned (.int .i64 7) ∧ Same w w' := by
 go_enter Tryz.func92, Tryz.ntmps92
 go_wp2
 go_ret
 exact ⟨rfl, (Kept.refl _ _).alloc _⟩
@[go_sem] theorem invk_8 (n : Nat) (txn prev page : Int) (ga : Option Addr) (gn gc : Nat) (w : World) : (method (n + 1) 126 (.agg #[.int .i64 txn, .int .i64 prev, .int .i64 page, .slice ga gn gc]) "loop.example/s02544/impl.kind").run Tryz.prog w = .ok (93, .agg #[.int .i64 txn, .int .i64 prev, .int .i64 page, .slice ga gn gc]) w := by kernel_rfl
@[go_sem] theorem invt_8 (n : Nat) (txn prev page : Int) (ga : Option Addr) (gn gc : Nat) (w : World) : (method (n + 1) 126 (.agg #[.int .i64 txn, .int .i64 prev, .int .i64 page, .slice ga gn gc]) "loop.example/s02544/impl.transaction").run Tryz.prog w = .ok (85, .agg #[.int .i64 txn, .int .i64 prev]) w := by kernel_rfl
@[go_sem] theorem inva_8 (n : Nat) (txn prev page : Int) (ga : Option Addr) (gn gc : Nat) (w : World) : (method (n + 1) 126 (.agg #[.int .i64 txn, .int .i64 prev, .int .i64 page, .slice ga gn gc]) "loop.example/s02544/impl.ahead").run Tryz.prog w = .ok (86, .agg #[.int .i64 txn, .int .i64 prev]) w := by kernel_rfl
@[go_sem] theorem invr_8 (n : Nat) (txn prev page : Int) (ga : Option Addr) (gn gc : Nat) (w : World) : (method (n + 1) 126 (.agg #[.int .i64 txn, .int .i64 prev, .int .i64 page, .slice ga gn gc]) "loop.example/s02544/impl.appendRest").run Tryz.prog w = .ok (157, .agg #[.int .i64 txn, .int .i64 prev, .int .i64 page, .slice ga gn gc]) w := by kernel_rfl
set_option maxRecDepth 100000 in
theorem kindI_8 (txn prev page : Int) (ga : Option Addr) (gn gc : Nat) (w : World) : Calls Tryz.prog 93 #[.agg #[.int .i64 txn, .int .i64 prev, .int .i64 page, .slice ga gn gc]] w fun e w' => e = .returned (.int .i64 8) ∧ Same w w' := by
 go_enter Tryz.func93, Tryz.ntmps93
 go_wp2
 go_ret
 exact ⟨rfl, (Kept.refl _ _).alloc _⟩
end Go.Proofs.YtkdohacgkjpopaaGreat
