/-
  DERIVED. GIVEN WITH THE SEED: THE PROGRAM's TIES (one call each: nine closed facts by the kernel) AND EACH ROW's TIE, after the 31st guide's Derived/Test/Toyas{Tie, Card}.lean. No idea stands in it: it is a product of the set-up. Laid BY PROGRAM, IN A SANDBOX (cutbox-door.mjs). By AI agents, Wed Nov 11 2026. No macro, syntax, notation, axiom, sorry.
-/
import Derived.Test.YtfihhkhdigbmiaaGreatDoorRows
import Derived.LaidByTextLater
import Derived.SevenTiedAt
import Derived.LaidSub
import Derived.LaidOnce
namespace Go.Proofs.YtfihhkhdigbmiaaGreatDoor
open Go
set_option maxRecDepth 100000
theorem seatTie1 : Tryz.prog.laidByTextLater [("loop.example/g00220/impl.errNoName", Rows.laid_loop_example_g00220_impl_errNoName), ("loop.example/g00220/impl.errNoRoom", Rows.laid_loop_example_g00220_impl_errNoRoom), ("loop.example/g00220/impl.errNoFile", Rows.laid_loop_example_g00220_impl_errNoFile), ("loop.example/g00220/impl.errNoByte", Rows.laid_loop_example_g00220_impl_errNoByte), ("loop.example/g00220/impl.errNoAct", Rows.laid_loop_example_g00220_impl_errNoAct)] [.sentinel, .sentinel, .sentinel, .sentinel, .sentinel] true :=
  Program.laidByTextLater_by_one 104 8 2 (by kernel_rfl) (by kernel_rfl) (by kernel_rfl) (by kernel_rfl) (by kernel_rfl) (by kernel_rfl) (fun _ _ => by kernel_rfl)
theorem noOwnUnsafe : Tryz.pinned.checked.prog.headLifts.contains "ownunsafe" = false := by kernel_rfl
theorem tie : Tryz.prog.laidByTextLater [("loop.example/g00220/impl.errNoName", Rows.laid_loop_example_g00220_impl_errNoName), ("loop.example/g00220/impl.errNoRoom", Rows.laid_loop_example_g00220_impl_errNoRoom), ("loop.example/g00220/impl.errNoFile", Rows.laid_loop_example_g00220_impl_errNoFile), ("loop.example/g00220/impl.errNoByte", Rows.laid_loop_example_g00220_impl_errNoByte), ("loop.example/g00220/impl.errNoAct", Rows.laid_loop_example_g00220_impl_errNoAct)] [.sentinel, .sentinel, .sentinel, .sentinel, .sentinel] true :=
  Program.laidByTextLater.sub seatTie1 ["loop.example/g00220/impl.errNoName", "loop.example/g00220/impl.errNoRoom", "loop.example/g00220/impl.errNoFile", "loop.example/g00220/impl.errNoByte", "loop.example/g00220/impl.errNoAct"] (by kernel_rfl) (by kernel_rfl)
theorem fnExactWalSync_row_tie : Rows.fnExactWalSyncRow.laidByTextAt .later Tryz.pinned [.sentinel, .sentinel, .sentinel, .sentinel, .sentinel] true :=
  OpenClaim.laidByTextAt_later rfl rfl tie noOwnUnsafe
theorem fnExactWalForget_row_tie : Rows.fnExactWalForgetRow.laidByTextAt .later Tryz.pinned [.sentinel, .sentinel, .sentinel, .sentinel, .sentinel] true :=
  OpenClaim.laidByTextAt_later rfl rfl tie noOwnUnsafe
theorem fnExactWalSyncUpto_row_tie : Rows.fnExactWalSyncUptoRow.laidByTextAt .later Tryz.pinned [.sentinel, .sentinel, .sentinel, .sentinel, .sentinel] true :=
  OpenClaim.laidByTextAt_later rfl rfl tie noOwnUnsafe
theorem fnExactWalForgetUpto_row_tie : Rows.fnExactWalForgetUptoRow.laidByTextAt .later Tryz.pinned [.sentinel, .sentinel, .sentinel, .sentinel, .sentinel] true :=
  OpenClaim.laidByTextAt_later rfl rfl tie noOwnUnsafe
end Go.Proofs.YtfihhkhdigbmiaaGreatDoor
