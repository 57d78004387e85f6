/- What laws.markText answers. -/
import Derived.Test.YtkjkfcljejjpbaaDoorStTextS
namespace Go.Proofs.YtkjkfcljejjpbaaDoor
set_option linter.unusedSimpArgs false
set_option linter.unusedVariables false
open Go.RowKit

/-- The mark of a number. -/
def mkT (k : Nat) : ByteArray := strOf (109 :: dgL k)
theorem dg_len2 (m : Nat) (h : m ≤ 1000000000000) : (dgL m).length ≤ 13 := by
  unfold dgL
  split
  · simp
  · exact dec_len m 12 (by omega)
end Go.Proofs.YtkjkfcljejjpbaaDoor
