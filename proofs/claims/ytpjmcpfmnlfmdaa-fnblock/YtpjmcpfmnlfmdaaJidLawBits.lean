/- The small functions of the laws on addresses: their sizes, their copies, their comparison. -/
import Derived.Test.YtpjmcpfmnlfmdaaJidSpec
namespace Go.Proofs.Ytpjmcpfmnlfmdaa
set_option linter.unusedSimpArgs false
set_option linter.unusedVariables false
open Go.RowKit

/-- An address as a value. -/
def jidV (l d r : ByteArray) : Value := .agg #[.string l, .string d, .string r]
/-- Two addresses alike, field by field. -/
def eqJ (a b c x y z : ByteArray) : Bool := (a.toList == x.toList) && (b.toList == y.toList) && (c.toList == z.toList)
end Go.Proofs.Ytpjmcpfmnlfmdaa
