/- The order of addresses is total, and patterns: plain mathematics of what the program answers. -/
import Derived.Test.YtddefjnnehjjkaaJidMatch
namespace Go.Proofs.Ytddefjnnehjjkaa
set_option linter.unusedSimpArgs false
set_option linter.unusedVariables false
open Go.RowKit

theorem less_both : ∀ a b : List UInt8, (Op.bytesLess a b && Op.bytesLess b a) = false
  | [], [] => rfl
  | [], _ :: _ => rfl
  | _ :: _, [] => rfl
  | a :: x, b :: y => by
    have ih := less_both x y
    unfold Op.bytesLess
    by_cases h1 : a < b
    · have h2 : ¬ b < a := UInt8.not_lt.2 (UInt8.le_of_lt h1)
      have h3 : (b == a) = false := beq_eq_false_iff_ne.2 (fun e => by subst e; exact h2 h1)
      simp [h2, h3]
    · by_cases h2 : b < a
      · have h3 : (a == b) = false := beq_eq_false_iff_ne.2 (fun e => by subst e; exact h1 h2)
        simp [h1, h3]
      · have h3 : a = b := UInt8.le_antisymm (UInt8.not_lt.1 h2) (UInt8.not_lt.1 h1)
        subst h3
        simp [h1]
        simpa using ih
theorem less_one : ∀ a b : List UInt8, (Op.bytesLess a b || Op.bytesLess b a) = !(a == b)
  | [], [] => rfl
  | [], _ :: _ => rfl
  | _ :: _, [] => rfl
  | a :: x, b :: y => by
    have ih := less_one x y
    unfold Op.bytesLess
    by_cases h1 : a < b
    · have h3 : (a == b) = false := beq_eq_false_iff_ne.2 (fun e => by subst e; exact UInt8.lt_irrefl _ h1)
      simp [h1, h3]
    · by_cases h2 : b < a
      · have h3 : (a == b) = false := beq_eq_false_iff_ne.2 (fun e => by subst e; exact UInt8.lt_irrefl _ h2)
        simp [h2, h3]
      · have h3 : a = b := UInt8.le_antisymm (UInt8.not_lt.1 h2) (UInt8.not_lt.1 h1)
        subst h3
        simp [h1]
        simpa using ih

theorem beq_flip (a b : List UInt8) : (a == b) = (b == a) := by
  by_cases h : a = b
  · subst h; rfl
  · rw [beq_eq_false_iff_ne.2 h, beq_eq_false_iff_ne.2 (Ne.symm h)]
theorem lessJ_right {l d r x y z : ByteArray} (h1 : jidB l d r = true) (h2 : jidB x y z = true) :
    lessJ l d r x y z = (if d.toList == y.toList then (if l.toList == x.toList then Op.bytesLess r.toList z.toList else Op.bytesLess l.toList x.toList) else Op.bytesLess d.toList y.toList) := by
  unfold lessJ
  rw [h1, h2]
  rfl
theorem lessJ_wrong {l d r x y z : ByteArray} (h : (jidB l d r && jidB x y z) = false) : lessJ l d r x y z = false := by
  unfold lessJ
  rw [h]
  rfl
theorem lessJ_self (l d r : ByteArray) : lessJ l d r l d r = false := by
  unfold lessJ
  split
  · simp [less_self]
  · rfl
theorem lessJ_one {l d r x y z : ByteArray} (h1 : jidB l d r = true) (h2 : jidB x y z = true) :
    (lessJ l d r x y z || lessJ x y z l d r) = !(l.toList == x.toList && d.toList == y.toList && r.toList == z.toList) ∧ (lessJ l d r x y z && lessJ x y z l d r) = false := by
  rw [lessJ_right h1 h2, lessJ_right h2 h1, beq_flip y.toList, beq_flip x.toList]
  cases e1 : (d.toList == y.toList)
  · simp only [Bool.false_eq_true, if_false]
    rw [less_one, less_both, e1]
    simp
  · simp only [if_true]
    cases e2 : (l.toList == x.toList)
    · simp only [Bool.false_eq_true, if_false]
      rw [less_one, less_both, e2]
      simp
    · simp only [if_true]
      rw [less_one, less_both]
      simp
theorem matchJ_self {l d r : ByteArray} (h : jidB l d r = true) : matchJ l d r l d r = true := by
  unfold matchJ
  rw [h]
  simp
theorem jidB_bare {l d r : ByteArray} (h : jidB l d r = true) : jidB l d ⟨#[]⟩ = true := by
  unfold jidB jidB' at h ⊢
  simp only [Bool.and_eq_true] at h ⊢
  exact ⟨h.1, rfl⟩
theorem matchJ_bare {l d r : ByteArray} (h : jidB l d r = true) : matchJ l d ⟨#[]⟩ l d r = true := by
  unfold matchJ
  rw [h, jidB_bare h, show decide ((⟨#[]⟩ : ByteArray).size = 0) = true from rfl]
  simp
theorem matchJ_dom {l d r x y z : ByteArray} (h : matchJ l d r x y z = true) : (d.toList == y.toList) = true := by
  unfold matchJ at h
  split at h
  · simp only [Bool.and_eq_true] at h
    exact h.1.2
  · cases h
end Go.Proofs.Ytddefjnnehjjkaa
