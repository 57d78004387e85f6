/- What stands while the two copies of a law's addresses are made in either order. -/
import Derived.Test.YtddefjnnehjjkaaJidLess
import Derived.Deep.RegionHeld3
namespace Go.Proofs.Ytddefjnnehjjkaa
set_option linter.unusedSimpArgs false
set_option linter.unusedVariables false
open Go.RowKit

theorem held_on {S : Prop} {W0 X w2 : World} (h : S ∧ Below W0.heap.size W0 X) (h2 : Below X.heap.size X w2) : Below W0.heap.size W0 w2 := h.2.trans (h2.mono h.2.size)
theorem held_six {w w1 : World} {a b c x y z : Value} {t u : Nat} (h : Below ((w.alloc (.cells #[a, b, c] t)).alloc (.cells #[x, y, z] u)).heap.size ((w.alloc (.cells #[a, b, c] t)).alloc (.cells #[x, y, z] u)) w1) :
    (w1.cell? ⟨w.heap.size, 0, none⟩ = some a ∧ w1.cell? ⟨w.heap.size, 1, none⟩ = some b ∧ w1.cell? ⟨w.heap.size, 2, none⟩ = some c ∧
    w1.cell? ⟨w.heap.size + 1, 0, none⟩ = some x ∧ w1.cell? ⟨w.heap.size + 1, 1, none⟩ = some y ∧ w1.cell? ⟨w.heap.size + 1, 2, none⟩ = some z) ∧
    Below ((w.alloc (.cells #[a, b, c] t)).alloc (.cells #[x, y, z] u)).heap.size ((w.alloc (.cells #[a, b, c] t)).alloc (.cells #[x, y, z] u)) w1 := by
  obtain ⟨⟨h1, h2, h3⟩, ⟨h4, h5, h6⟩, _⟩ := six_kept h
  exact ⟨⟨h1, h2, h3, h4, h5, h6⟩, h⟩
end Go.Proofs.Ytddefjnnehjjkaa
