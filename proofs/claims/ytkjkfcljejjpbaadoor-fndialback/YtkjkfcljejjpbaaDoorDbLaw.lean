/- The walks of FnExactDialbackRight and FnExactDbTrusts. -/
import Derived.Test.YtkjkfcljejjpbaaDoorDbTrust
namespace Go.Proofs.YtkjkfcljejjpbaaDoor
set_option linter.unusedSimpArgs false
set_option linter.unusedVariables false
open Go.RowKit

theorem row_pr_of {W : World} {B : Nat} {p : Option Addr} {k n : Nat} {xs : List PrL} (h : OwnC prC W B 43 4 (.slice p n k) xs) : RowC prC 4 W p xs := by
  obtain ⟨p', k', e, hR⟩ := h.row prC_len
  injection e with e1 e2 e3
  rw [e1]
  exact hR
theorem le_wf {ps : List PrL} (h : ∀ x ∈ ps, Le_pr 1048576 x) : ∀ x ∈ ps, x.d.size ≤ maxLen ∧ x.k.size ≤ maxLen := fun x hx => by
  obtain ⟨h1, h2⟩ := h x hx
  unfold maxLen
  exact ⟨by omega, by omega⟩
end Go.Proofs.YtkjkfcljejjpbaaDoor
