import Derived.Test.YtjlkphhdbopmiaaGreatG01
namespace Go.Proofs.YtjlkphhdbopmiaaGreat
set_option maxRecDepth 100000
set_option maxHeartbeats 4000000
set_option linter.unusedVariables false
set_option linter.unusedSimpArgs false
open Go.RowKit
theorem toGeo_any (p f l : Int) (w : World) : Calls Tryz.prog 7 #[.agg #[.int .i64 p, .int .i64 f, .int .i64 l]] w fun e w' => e = .returned (.agg #[.int .i64 p, .int .i64 f, .int .i64 l]) ∧ Same w w' := by
 go_enter Tryz.func7, Tryz.ntmps7
 go_wp2
 refine bodyPost_ret (v := .agg #[.int .i64 p, .int .i64 f, .int .i64 l]) (by simp [results, Tryz.results7, go_sem]) rfl ⟨rfl, ?_⟩
 repeat (first | exact Kept.refl _ _ | refine Kept.alloc ?_ _ | refine Kept.setCell ?_ (.inl (by simp)) _)
end Go.Proofs.YtjlkphhdbopmiaaGreat
