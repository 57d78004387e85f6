/-
  DERIVED. GIVEN WITH THE SEED: THE PROGRAM's TIES (one call each: nine closed facts by the kernel) AND EACH ROW's TIE, after the 31st guide's Derived/Test/Toyas{Tie, Card}.lean. No idea stands in it: it is a product of the set-up. Laid BY PROGRAM, IN A SANDBOX (cutbox-door.mjs). By AI agents, Wed Nov 11 2026. No macro, syntax, notation, axiom, sorry.
-/
import Derived.Test.YtpbogdfgomfpjaaDoorRows
import Derived.LaidByTextLater
import Derived.SevenTiedAt
import Derived.LaidSub
import Derived.LaidOnce
namespace Go.Proofs.YtpbogdfgomfpjaaDoor
open Go
set_option maxRecDepth 100000
theorem seatTie1 : Tryd.prog.laidByTextLater [("math/bits.deBruijn32tab", Rows.laid_math_bits_deBruijn32tab), ("math/bits.deBruijn64tab", Rows.laid_math_bits_deBruijn64tab), ("internal/strconv.uint64pow10", Rows.laid_internal_strconv_uint64pow10), ("loop.example/g00387/impl.firstState", Rows.laid_loop_example_g00387_impl_firstState), ("loop.example/g00387/impl.roundKeys", Rows.laid_loop_example_g00387_impl_roundKeys), ("loop.example/g00387/impl.errNotValid", Rows.laid_loop_example_g00387_impl_errNotValid), ("loop.example/g00387/impl.errNoPeer", Rows.laid_loop_example_g00387_impl_errNoPeer), ("loop.example/g00387/impl.errNoRoom", Rows.laid_loop_example_g00387_impl_errNoRoom), ("loop.example/g00387/impl.errWrongState", Rows.laid_loop_example_g00387_impl_errWrongState)] [.data, .data, .data, .data, .data, .sentinel, .sentinel, .sentinel, .sentinel] true :=
  Program.laidByTextLater_by_one 110 8 65 (by kernel_rfl) (by kernel_rfl) (by kernel_rfl) (by kernel_rfl) (by kernel_rfl) (by kernel_rfl) (fun _ _ => by kernel_rfl)
theorem noOwnUnsafe : Tryd.pinned.checked.prog.headLifts.contains "ownunsafe" = false := by kernel_rfl
theorem tie : Tryd.prog.laidByTextLater [("math/bits.deBruijn32tab", Rows.laid_math_bits_deBruijn32tab), ("math/bits.deBruijn64tab", Rows.laid_math_bits_deBruijn64tab), ("internal/strconv.uint64pow10", Rows.laid_internal_strconv_uint64pow10), ("loop.example/g00387/impl.firstState", Rows.laid_loop_example_g00387_impl_firstState), ("loop.example/g00387/impl.roundKeys", Rows.laid_loop_example_g00387_impl_roundKeys)] [.data, .data, .data, .data, .data] true :=
  Program.laidByTextLater.sub seatTie1 ["math/bits.deBruijn32tab", "math/bits.deBruijn64tab", "internal/strconv.uint64pow10", "loop.example/g00387/impl.firstState", "loop.example/g00387/impl.roundKeys"] (by kernel_rfl) (by kernel_rfl)
theorem fnKey_row_tie : Rows.fnKeyRow.laidByTextAt .later Tryd.pinned [.data, .data, .data, .data, .data] true :=
  OpenClaim.laidByTextAt_later rfl rfl tie noOwnUnsafe
theorem fnExactDbKey_row_tie : Rows.fnExactDbKeyRow.laidByTextAt .later Tryd.pinned [.data, .data, .data, .data, .data] true :=
  OpenClaim.laidByTextAt_later rfl rfl tie noOwnUnsafe
theorem fnExactDbAnswer_row_tie : Rows.fnExactDbAnswerRow.laidByTextAt .later Tryd.pinned [.data, .data, .data, .data, .data] true :=
  OpenClaim.laidByTextAt_later rfl rfl tie noOwnUnsafe
theorem tie2 : Tryd.prog.laidByTextLater [("loop.example/g00387/impl.errNotValid", Rows.laid_loop_example_g00387_impl_errNotValid), ("loop.example/g00387/impl.errNoPeer", Rows.laid_loop_example_g00387_impl_errNoPeer), ("loop.example/g00387/impl.errNoRoom", Rows.laid_loop_example_g00387_impl_errNoRoom), ("loop.example/g00387/impl.errWrongState", Rows.laid_loop_example_g00387_impl_errWrongState)] [.sentinel, .sentinel, .sentinel, .sentinel] true :=
  Program.laidByTextLater.sub seatTie1 ["loop.example/g00387/impl.errNotValid", "loop.example/g00387/impl.errNoPeer", "loop.example/g00387/impl.errNoRoom", "loop.example/g00387/impl.errWrongState"] (by kernel_rfl) (by kernel_rfl)
theorem fnDialback_row_tie : Rows.fnDialbackRow.laidByTextAt .later Tryd.pinned [.sentinel, .sentinel, .sentinel, .sentinel] true :=
  OpenClaim.laidByTextAt_later rfl rfl tie2 noOwnUnsafe
theorem fnExactDbOpen_row_tie : Rows.fnExactDbOpenRow.laidByTextAt .later Tryd.pinned [.sentinel, .sentinel, .sentinel, .sentinel] true :=
  OpenClaim.laidByTextAt_later rfl rfl tie2 noOwnUnsafe
theorem fnExactDbResult_row_tie : Rows.fnExactDbResultRow.laidByTextAt .later Tryd.pinned [.sentinel, .sentinel, .sentinel, .sentinel] true :=
  OpenClaim.laidByTextAt_later rfl rfl tie2 noOwnUnsafe
theorem fnExactDbVerified_row_tie : Rows.fnExactDbVerifiedRow.laidByTextAt .later Tryd.pinned [.sentinel, .sentinel, .sentinel, .sentinel] true :=
  OpenClaim.laidByTextAt_later rfl rfl tie2 noOwnUnsafe
theorem fnKeyUpto_row_tie : Rows.fnKeyUptoRow.laidByTextAt .later Tryd.pinned [.data, .data, .data, .data, .data] true :=
  OpenClaim.laidByTextAt_later rfl rfl tie noOwnUnsafe
theorem fnDialbackUpto_row_tie : Rows.fnDialbackUptoRow.laidByTextAt .later Tryd.pinned [.sentinel, .sentinel, .sentinel, .sentinel] true :=
  OpenClaim.laidByTextAt_later rfl rfl tie2 noOwnUnsafe
theorem fnExactDbKeyUpto_row_tie : Rows.fnExactDbKeyUptoRow.laidByTextAt .later Tryd.pinned [.data, .data, .data, .data, .data] true :=
  OpenClaim.laidByTextAt_later rfl rfl tie noOwnUnsafe
theorem fnExactDbAnswerUpto_row_tie : Rows.fnExactDbAnswerUptoRow.laidByTextAt .later Tryd.pinned [.data, .data, .data, .data, .data] true :=
  OpenClaim.laidByTextAt_later rfl rfl tie noOwnUnsafe
theorem fnExactDbOpenUpto_row_tie : Rows.fnExactDbOpenUptoRow.laidByTextAt .later Tryd.pinned [.sentinel, .sentinel, .sentinel, .sentinel] true :=
  OpenClaim.laidByTextAt_later rfl rfl tie2 noOwnUnsafe
theorem fnExactDbResultUpto_row_tie : Rows.fnExactDbResultUptoRow.laidByTextAt .later Tryd.pinned [.sentinel, .sentinel, .sentinel, .sentinel] true :=
  OpenClaim.laidByTextAt_later rfl rfl tie2 noOwnUnsafe
theorem fnExactDbVerifiedUpto_row_tie : Rows.fnExactDbVerifiedUptoRow.laidByTextAt .later Tryd.pinned [.sentinel, .sentinel, .sentinel, .sentinel] true :=
  OpenClaim.laidByTextAt_later rfl rfl tie2 noOwnUnsafe
end Go.Proofs.YtpbogdfgomfpjaaDoor
