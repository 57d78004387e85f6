/-
  DERIVED. GIVEN WITH THE SEED: THE PROGRAM's TIES (one call each: nine closed facts by the kernel) AND EACH ROW's TIE, after the 31st guide's Derived/Test/Toyas{Tie, Card}.lean. No idea stands in it: it is a product of the set-up. Laid BY PROGRAM, IN A SANDBOX (cutbox-door.mjs). By AI agents, Wed Nov 11 2026. No macro, syntax, notation, axiom, sorry.
-/
import Derived.Test.YtkjkfcljejjpbaaDoorRows
import Derived.LaidByTextLater
import Derived.SevenTiedAt
import Derived.LaidSub
import Derived.LaidOnce
namespace Go.Proofs.YtkjkfcljejjpbaaDoor
open Go
set_option maxRecDepth 100000
theorem seatTie1 : Tryd.prog.laidByTextLater [("loop.example/g00387/impl.errNotValid", Rows.laid_loop_example_g00387_impl_errNotValid), ("loop.example/g00387/impl.errNoPeer", Rows.laid_loop_example_g00387_impl_errNoPeer), ("loop.example/g00387/impl.errNoRoom", Rows.laid_loop_example_g00387_impl_errNoRoom), ("loop.example/g00387/impl.errWrongState", Rows.laid_loop_example_g00387_impl_errWrongState)] [.sentinel, .sentinel, .sentinel, .sentinel] true :=
  Program.laidByTextLater_by_one 85 8 2 (by kernel_rfl) (by kernel_rfl) (by kernel_rfl) (by kernel_rfl) (by kernel_rfl) (by kernel_rfl) (fun _ _ => by kernel_rfl)
theorem noOwnUnsafe : Tryd.pinned.checked.prog.headLifts.contains "ownunsafe" = false := by kernel_rfl
theorem tie : Tryd.prog.laidByTextLater [("loop.example/g00387/impl.errNotValid", Rows.laid_loop_example_g00387_impl_errNotValid), ("loop.example/g00387/impl.errNoPeer", Rows.laid_loop_example_g00387_impl_errNoPeer), ("loop.example/g00387/impl.errNoRoom", Rows.laid_loop_example_g00387_impl_errNoRoom), ("loop.example/g00387/impl.errWrongState", Rows.laid_loop_example_g00387_impl_errWrongState)] [.sentinel, .sentinel, .sentinel, .sentinel] true :=
  Program.laidByTextLater.sub seatTie1 ["loop.example/g00387/impl.errNotValid", "loop.example/g00387/impl.errNoPeer", "loop.example/g00387/impl.errNoRoom", "loop.example/g00387/impl.errWrongState"] (by kernel_rfl) (by kernel_rfl)
theorem fnDialback_row_tie : Rows.fnDialbackRow.laidByTextAt .later Tryd.pinned [.sentinel, .sentinel, .sentinel, .sentinel] true :=
  OpenClaim.laidByTextAt_later rfl rfl tie noOwnUnsafe
theorem fnDialbackUpto_row_tie : Rows.fnDialbackUptoRow.laidByTextAt .later Tryd.pinned [.sentinel, .sentinel, .sentinel, .sentinel] true :=
  OpenClaim.laidByTextAt_later rfl rfl tie noOwnUnsafe
end Go.Proofs.YtkjkfcljejjpbaaDoor
