/- The order of addresses and their patterns: what JidLess and Matches answer, the program's and the specification's. -/
import Derived.Test.YtpjmcpfmnlfmdaaJidText
import Derived.Test.YtpjmcpfmnlfmdaaJidLawBits
namespace Go.Proofs.Ytpjmcpfmnlfmdaa
set_option linter.unusedSimpArgs false
set_option linter.unusedVariables false
open Go.RowKit

/-- Two boxes of three cells that were laid ahead of a call stand behind it. -/
theorem six_kept {w w1 : World} {a b c x y z : Value} {t u : Nat} (h : Below ((w.alloc (.cells #[a, b, c] t)).alloc (.cells #[x, y, z] u)).heap.size ((w.alloc (.cells #[a, b, c] t)).alloc (.cells #[x, y, z] u)) w1) :
    (w1.cell? ⟨w.heap.size, 0, none⟩ = some a ∧ w1.cell? ⟨w.heap.size, 1, none⟩ = some b ∧ w1.cell? ⟨w.heap.size, 2, none⟩ = some c) ∧
    (w1.cell? ⟨w.heap.size + 1, 0, none⟩ = some x ∧ w1.cell? ⟨w.heap.size + 1, 1, none⟩ = some y ∧ w1.cell? ⟨w.heap.size + 1, 2, none⟩ = some z) ∧
    (w1.frozen? ⟨w.heap.size, 0, none⟩ = false ∧ w1.frozen? ⟨w.heap.size, 1, none⟩ = false ∧ w1.frozen? ⟨w.heap.size, 2, none⟩ = false) := by
  have h1 : Below (w.alloc (.cells #[a, b, c] t)).heap.size (w.alloc (.cells #[a, b, c] t)) w1 := below_one h
  have h2 := three_kept h1
  have h3 := three_kept h
  rw [World.size_alloc] at h3
  exact ⟨h2.1, h3.1, h2.2.1⟩
theorem less_self : ∀ a : List UInt8, Op.bytesLess a a = false
  | [] => rfl
  | c :: a => by
    unfold Op.bytesLess
    rw [less_self a]
    simp
noncomputable def lessJ (l d r x y z : ByteArray) : Bool :=
  if jidB l d r && jidB x y z then (if d.toList == y.toList then (if l.toList == x.toList then Op.bytesLess r.toList z.toList else Op.bytesLess l.toList x.toList) else Op.bytesLess d.toList y.toList) else false
end Go.Proofs.Ytpjmcpfmnlfmdaa
