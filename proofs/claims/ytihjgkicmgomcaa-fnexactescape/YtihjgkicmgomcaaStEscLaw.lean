/- FnExactEscape's walk. -/
import Derived.Test.YtihjgkicmgomcaaStEscI
namespace Go.Proofs.Ytihjgkicmgomcaa
set_option linter.unusedSimpArgs false
set_option linter.unusedVariables false
open Go.RowKit

set_option maxHeartbeats 1000000 in
theorem escape_law (w : World) (a0 : ByteArray) (w0 : a0.size ≤ maxLen) :
    Calls Try.prog 6 #[.string a0] w fun e w' => e = .returned (.bool true) ∧ Below w.heap.size w w' := by
  have i1 := fun w => spec_escape a0 w w0
  have i2 := fun w => impl_escape a0 w w0
  unfold maxLen at w0
  obtain ⟨v, hv⟩ : ∃ v, escS a0 = v := ⟨_, rfl⟩
  rw [hv] at i1 i2
  clear hv
  by_cases hbig : 1048576 < a0.size
  · go_enter Try.func6, Try.ntmps6
    go_wp2
    go_ret
    exact ⟨rfl, Below.refl _ _⟩
  · go_enter Try.func6, Try.ntmps6
    go_wp2_with (first
      | (go_at_call 12; go_fit (i1 _); rintro e w1 ⟨rfl, hb⟩)
      | (go_at_call 11; go_fit (i2 _); rintro e w2 ⟨rfl, hb2⟩; replace hb := hb.trans (hb2.mono hb.size)))
    go_ret
    exact ⟨rfl, hb⟩
end Go.Proofs.Ytihjgkicmgomcaa
