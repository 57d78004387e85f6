/- What impl.NameRight and spec.NameRight answer at every string: nameB. -/
import Derived.Test.YtkjkfcljejjpbaaChecked
import Derived.Test.YtkjkfcljejjpbaaMath
import Derived.WalkKit
import Derived.ProofKit
import Derived.OpenShut
import Derived.Lib.Hide
namespace Go.Proofs.Ytkjkfcljejjpbaa
open Go.RowKit



def letN (c : Nat) : Prop := 97 ≤ c ∧ c ≤ 122
def moreN (c : Nat) : Prop := 97 ≤ c ∧ c ≤ 122 ∨ 48 ≤ c ∧ c ≤ 57 ∨ c = 95
instance (c : Nat) : Decidable (letN c) := by unfold letN; infer_instance
instance (c : Nat) : Decidable (moreN c) := by unfold moreN; infer_instance
def nameAt (s : ByteArray) (k : Nat) : Prop := ∀ h : k < s.size, if k = 0 then letN s[k].toNat else moreN s[k].toNat
def nameP (s : ByteArray) : Prop := 1 ≤ s.size ∧ s.size ≤ 20 ∧ ∀ k, nameAt s k
open Classical in
noncomputable def nameB (s : ByteArray) : Bool := decide (nameP s)
theorem nameB_true {s : ByteArray} (h : nameP s) : nameB s = true := by unfold nameB; simpa using h
theorem nameB_false {s : ByteArray} (h : ¬ nameP s) : nameB s = false := by unfold nameB; simpa using h
theorem name_no {s : ByteArray} {k : Nat} (hlt : k < s.size) (h : nameP s) : k = 0 ∧ 97 ≤ (s[k].toNat : Int) ∧ (s[k].toNat : Int) ≤ 122 ∨ 0 < k ∧ (97 ≤ (s[k].toNat : Int) ∧ (s[k].toNat : Int) ≤ 122 ∨ 48 ≤ (s[k].toNat : Int) ∧ (s[k].toNat : Int) ≤ 57 ∨ (s[k].toNat : Int) = 95) := by
  have hx := h.2.2 k hlt
  by_cases hk : k = 0
  · rw [if_pos hk] at hx; unfold letN at hx; omega
  · rw [if_neg hk] at hx; unfold moreN at hx; omega
theorem name_go {s : ByteArray} {k : Nat} (hlt : k < s.size) (hall : ∀ j, j < k → nameAt s j) (h : k = 0 ∧ 97 ≤ (s[k].toNat : Int) ∧ (s[k].toNat : Int) ≤ 122 ∨ 0 < k ∧ (97 ≤ (s[k].toNat : Int) ∧ (s[k].toNat : Int) ≤ 122 ∨ 48 ≤ (s[k].toNat : Int) ∧ (s[k].toNat : Int) ≤ 57 ∨ (s[k].toNat : Int) = 95)) : ∀ j, j < k + 1 → nameAt s j := by
  intro j hj
  by_cases hjk : j = k
  · subst hjk
    intro h'
    by_cases hk : j = 0
    · rw [if_pos hk]; unfold letN; omega
    · rw [if_neg hk]; unfold moreN; omega
  · exact hall j (by omega)

end Go.Proofs.Ytkjkfcljejjpbaa
