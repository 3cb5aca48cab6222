/-
  DERIVED. GIVEN WITH THE SEED: THE PROGRAM's TIES (one call each: nine closed facts by the kernel) AND EACH ROW's TIE, after the 31st guide's Derived/Test/Toyas{Tie, Card}.lean. No idea stands in it: it is a product of the set-up. Laid BY PROGRAM, IN A SANDBOX (cutbox-door.mjs). By AI agents, Wed Nov 11 2026. No macro, syntax, notation, axiom, sorry.
-/
import Derived.Test.YtfnblkcmcfofoaaGreatDoorRows
import Derived.LaidByTextLater
import Derived.SevenTiedAt
import Derived.LaidSub
import Derived.LaidOnce
namespace Go.Proofs.YtfnblkcmcfofoaaGreatDoor
open Go
set_option maxRecDepth 100000
theorem seatTie1 : Tryz.prog.laidByTextLater [("loop.example/g00592/impl.valueForms", Rows.laid_loop_example_g00592_impl_valueForms), ("loop.example/g00592/impl.kindJoins", Rows.laid_loop_example_g00592_impl_kindJoins), ("loop.example/g00592/impl.errUnfit", Rows.laid_loop_example_g00592_impl_errUnfit)] [.data, .data, .sentinel] true :=
  Program.laidByTextLater_by_one 48 8 37 (by kernel_rfl) (by kernel_rfl) (by kernel_rfl) (by kernel_rfl) (by kernel_rfl) (by kernel_rfl) (fun _ _ => by kernel_rfl)
theorem noOwnUnsafe : Tryz.pinned.checked.prog.headLifts.contains "ownunsafe" = false := by kernel_rfl
theorem tie : Tryz.prog.laidByTextLater [("loop.example/g00592/impl.kindJoins", Rows.laid_loop_example_g00592_impl_kindJoins), ("loop.example/g00592/impl.errUnfit", Rows.laid_loop_example_g00592_impl_errUnfit)] [.data, .sentinel] true :=
  Program.laidByTextLater.sub seatTie1 ["loop.example/g00592/impl.kindJoins", "loop.example/g00592/impl.errUnfit"] (by kernel_rfl) (by kernel_rfl)
theorem fnTyped_row_tie : Rows.fnTypedRow.laidByTextAt .later Tryz.pinned [.data, .sentinel] true :=
  OpenClaim.laidByTextAt_later rfl rfl tie noOwnUnsafe
theorem tie2 : Tryz.prog.laidByTextLater [("loop.example/g00592/impl.valueForms", Rows.laid_loop_example_g00592_impl_valueForms), ("loop.example/g00592/impl.kindJoins", Rows.laid_loop_example_g00592_impl_kindJoins), ("loop.example/g00592/impl.errUnfit", Rows.laid_loop_example_g00592_impl_errUnfit)] [.data, .data, .sentinel] true :=
  Program.laidByTextLater.sub seatTie1 ["loop.example/g00592/impl.valueForms", "loop.example/g00592/impl.kindJoins", "loop.example/g00592/impl.errUnfit"] (by kernel_rfl) (by kernel_rfl)
theorem fnFoci_row_tie : Rows.fnFociRow.laidByTextAt .later Tryz.pinned [.data, .data, .sentinel] true :=
  OpenClaim.laidByTextAt_later rfl rfl tie2 noOwnUnsafe
theorem fnExactFoci_row_tie : Rows.fnExactFociRow.laidByTextAt .later Tryz.pinned [.data, .data, .sentinel] true :=
  OpenClaim.laidByTextAt_later rfl rfl tie2 noOwnUnsafe
theorem fnExactCountFoci_row_tie : Rows.fnExactCountFociRow.laidByTextAt .later Tryz.pinned [.data, .data, .sentinel] true :=
  OpenClaim.laidByTextAt_later rfl rfl tie2 noOwnUnsafe
theorem fnExactFirstFocus_row_tie : Rows.fnExactFirstFocusRow.laidByTextAt .later Tryz.pinned [.data, .data, .sentinel] true :=
  OpenClaim.laidByTextAt_later rfl rfl tie2 noOwnUnsafe
theorem fnTypedUpto_row_tie : Rows.fnTypedUptoRow.laidByTextAt .later Tryz.pinned [.data, .sentinel] true :=
  OpenClaim.laidByTextAt_later rfl rfl tie noOwnUnsafe
theorem fnFociUpto_row_tie : Rows.fnFociUptoRow.laidByTextAt .later Tryz.pinned [.data, .data, .sentinel] true :=
  OpenClaim.laidByTextAt_later rfl rfl tie2 noOwnUnsafe
theorem fnExactFociUpto_row_tie : Rows.fnExactFociUptoRow.laidByTextAt .later Tryz.pinned [.data, .data, .sentinel] true :=
  OpenClaim.laidByTextAt_later rfl rfl tie2 noOwnUnsafe
theorem fnExactCountFociUpto_row_tie : Rows.fnExactCountFociUptoRow.laidByTextAt .later Tryz.pinned [.data, .data, .sentinel] true :=
  OpenClaim.laidByTextAt_later rfl rfl tie2 noOwnUnsafe
theorem fnExactFirstFocusUpto_row_tie : Rows.fnExactFirstFocusUptoRow.laidByTextAt .later Tryz.pinned [.data, .data, .sentinel] true :=
  OpenClaim.laidByTextAt_later rfl rfl tie2 noOwnUnsafe
end Go.Proofs.YtfnblkcmcfofoaaGreatDoor
