/- What JidRead answers, the program's and the specification's. -/
import Derived.Test.YtkjkfcljejjpbaaJidLow
namespace Go.Proofs.Ytkjkfcljejjpbaa
set_option linter.unusedSimpArgs false
set_option linter.unusedVariables false
open Go.RowKit

theorem strOf_back (l : List UInt8) : (⟨l.toArray⟩ : ByteArray) = strOf l := rfl
theorem cut_le (T : List UInt8) (c : UInt8) : (Lib.cut T [c]).1.length ≤ T.length ∧ (Lib.cut T [c]).2.1.length ≤ T.length := by
  rcases cut_form T c with ⟨A, R, rfl, h⟩ | h
  · rw [cut_app h]; simp; omega
  · rw [cut_not h]; simp
/-- An address out of three lists of bytes. -/
def jidP (p : List UInt8 × List UInt8 × List UInt8) : Value := .agg #[.string (strOf p.1), .string (strOf p.2.1), .string (strOf p.2.2)]

end Go.Proofs.Ytkjkfcljejjpbaa
