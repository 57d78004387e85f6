/- What impl.JidRight and spec.JidRight answer: jidB. -/
import Derived.Test.YtkjkfcljejjpbaaJidParts
import Derived.Deep.QuietTactic
import Derived.BigQuiet
import Derived.RegionTactic
import Derived.IntWalk
import Derived.Deep.DeepFit
namespace Go.Proofs.Ytkjkfcljejjpbaa
set_option linter.unusedSimpArgs false
set_option linter.unusedVariables false
open Go.RowKit

theorem ne_nil {s : ByteArray} (h : 0 < s.size) : s.toList ≠ [] := by
  rw [ByteArray.toList_eq]
  intro e
  have h1 : s.data.toList.length = 0 := by rw [e]; rfl
  have h2 : s.data.toList.length = s.size := Array.length_toList
  omega
theorem not_empty {s : ByteArray} (h : 0 < s.size) : s.toList.isEmpty = false := by
  rw [Bool.eq_false_iff]
  intro e
  exact ne_nil h (List.isEmpty_iff.1 e)

theorem below_drewN {B : Nat} {a w : World} (h : Below B a w) (n : Nat) : Below B a (w.drewN n) := ⟨h.os, h.tape, h.output, h.size, h.block⟩
def jidB' : Bool → Bool → Bool → Bool := fun a b c => a && b && c
/-- Is this address valid? -/
noncomputable def jidB (l d r : ByteArray) : Bool := jidB' (partB locC l) (domB d) (partB resC r)
end Go.Proofs.Ytkjkfcljejjpbaa
