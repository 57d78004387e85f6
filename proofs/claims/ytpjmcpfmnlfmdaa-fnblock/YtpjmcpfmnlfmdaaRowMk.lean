/- Marks that are texts. -/
import Derived.Test.YtpjmcpfmnlfmdaaRowMk0
import Derived.Test.YtpjmcpfmnlfmdaaMarkText
namespace Go.Proofs.Ytpjmcpfmnlfmdaa
set_option linter.unusedSimpArgs false
set_option linter.unusedVariables false
open Go.RowKit

theorem mark_textI (z : Int) (w : World) (h0 : 0 < z) (h1 : z ≤ 1000000000000) :
    Calls Try.prog 69 #[.int .i64 z] w fun e w' => e = .returned (.string (mkT z.toNat)) ∧ Below w.heap.size w w' := by
  obtain ⟨N, rfl⟩ : ∃ N : Nat, z = (N : Int) := ⟨z.toNat, by omega⟩
  rw [Int.toNat_natCast]
  exact mark_text N w (by omega) (by omega)
end Go.Proofs.Ytpjmcpfmnlfmdaa
