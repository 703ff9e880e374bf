/-
  DERIVED. GIVEN WITH THE SEED: THE PROGRAM's TIES (one call each: nine closed facts by the kernel) AND EACH ROW's TIE, after the 31st guide's Derived/Test/Toyas{Tie, Card}.lean. No idea stands in it: it is a product of the set-up. Laid BY PROGRAM, IN A SANDBOX (cutbox-door.mjs). By AI agents, Wed Nov 11 2026. No macro, syntax, notation, axiom, sorry.
-/
import Derived.Test.YtapdfgkbhaoelaaGreatDoorRows
import Derived.LaidByTextLater
import Derived.SevenTiedAt
import Derived.LaidSub
import Derived.LaidOnce
namespace Go.Proofs.YtapdfgkbhaoelaaGreatDoor
open Go
set_option maxRecDepth 100000
theorem seatTie1 : Tryz.prog.laidByTextLater [("loop.example/s02544/impl.errMasterSeq", Rows.laid_loop_example_s02544_impl_errMasterSeq), ("loop.example/s02544/impl.errMasterEpoch", Rows.laid_loop_example_s02544_impl_errMasterEpoch), ("loop.example/s02544/impl.errMasterPlaces", Rows.laid_loop_example_s02544_impl_errMasterPlaces), ("loop.example/s02544/impl.errMasterLength", Rows.laid_loop_example_s02544_impl_errMasterLength), ("loop.example/s02544/impl.errMasterForm", Rows.laid_loop_example_s02544_impl_errMasterForm)] [.sentinel, .sentinel, .sentinel, .sentinel, .sentinel] true :=
  Program.laidByTextLater_by_one 104 8 2 (by kernel_rfl) (by kernel_rfl) (by kernel_rfl) (by kernel_rfl) (by kernel_rfl) (by kernel_rfl) (fun _ _ => by kernel_rfl)
theorem noOwnUnsafe : Tryz.pinned.checked.prog.headLifts.contains "ownunsafe" = false := by kernel_rfl
theorem tie : Tryz.prog.laidByTextLater [("loop.example/s02544/impl.errMasterSeq", Rows.laid_loop_example_s02544_impl_errMasterSeq), ("loop.example/s02544/impl.errMasterEpoch", Rows.laid_loop_example_s02544_impl_errMasterEpoch), ("loop.example/s02544/impl.errMasterPlaces", Rows.laid_loop_example_s02544_impl_errMasterPlaces), ("loop.example/s02544/impl.errMasterLength", Rows.laid_loop_example_s02544_impl_errMasterLength), ("loop.example/s02544/impl.errMasterForm", Rows.laid_loop_example_s02544_impl_errMasterForm)] [.sentinel, .sentinel, .sentinel, .sentinel, .sentinel] true :=
  Program.laidByTextLater.sub seatTie1 ["loop.example/s02544/impl.errMasterSeq", "loop.example/s02544/impl.errMasterEpoch", "loop.example/s02544/impl.errMasterPlaces", "loop.example/s02544/impl.errMasterLength", "loop.example/s02544/impl.errMasterForm"] (by kernel_rfl) (by kernel_rfl)
theorem fnFrames_row_tie : Rows.fnFramesRow.laidByTextAt .later Tryz.pinned [.sentinel, .sentinel, .sentinel, .sentinel, .sentinel] true :=
  OpenClaim.laidByTextAt_later rfl rfl tie noOwnUnsafe
theorem fnFramesUpto_row_tie : Rows.fnFramesUptoRow.laidByTextAt .later Tryz.pinned [.sentinel, .sentinel, .sentinel, .sentinel, .sentinel] true :=
  OpenClaim.laidByTextAt_later rfl rfl tie noOwnUnsafe
end Go.Proofs.YtapdfgkbhaoelaaGreatDoor
