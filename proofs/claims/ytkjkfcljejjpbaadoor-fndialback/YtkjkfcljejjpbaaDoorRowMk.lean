/- Marks that are texts. -/
import Derived.Test.YtkjkfcljejjpbaaDoorRowMk0
import Derived.Test.YtkjkfcljejjpbaaDoorMarkText
namespace Go.Proofs.YtkjkfcljejjpbaaDoor
set_option linter.unusedSimpArgs false
set_option linter.unusedVariables false
open Go.RowKit

end Go.Proofs.YtkjkfcljejjpbaaDoor
