/- The text of an address: what impl.addressText, impl.JidText, spec.l03Text and spec.JidText answer. -/
import Derived.Test.YtkjkfcljejjpbaaJidSpec
import Derived.Test.YtkjkfcljejjpbaaJoinWalks
import Derived.Lib.SmallJoins
namespace Go.Proofs.Ytkjkfcljejjpbaa
set_option linter.unusedSimpArgs false
set_option linter.unusedVariables false
open Go.RowKit

def atS : ByteArray := ⟨#[64]⟩
def slS : ByteArray := ⟨#[47]⟩
def markOf (m x : ByteArray) : ByteArray := if x.size = 0 then ByteArray.empty else m
/-- The text of an address. -/
def jidT (l d r : ByteArray) : ByteArray := strOf (flat [l, markOf atS l, d, markOf slS r, r])
theorem flat_five (a b c d e : ByteArray) : flat [a, b, c, d, e] = a.data.toList ++ (b.data.toList ++ (c.data.toList ++ (d.data.toList ++ e.data.toList))) := by simp [flat]
theorem mark_none {m x : ByteArray} (h : x.size = 0) : markOf m x = ByteArray.empty := by unfold markOf; rw [if_pos h]
theorem mark_some {m x : ByteArray} (h : 0 < x.size) : markOf m x = m := by unfold markOf; rw [if_neg (by omega)]
theorem empty_list : ByteArray.empty.data.toList = [] := rfl
theorem empty_of {s : ByteArray} (h : s.size = 0) : s.toList = [] ∧ s.toList.isEmpty = true := by
  rw [size_zero h]
  exact ⟨by rw [ByteArray.toList_eq]; rfl, by rw [ByteArray.toList_eq]; rfl⟩
theorem five_cells (w : World) (a b c d e : ByteArray) (t : Nat) : ∀ j (h : j < [a, b, c, d, e].length), (w.alloc (.cells #[.string a, .string b, .string c, .string d, .string e] t)).cell? ⟨w.heap.size, j, none⟩ = some (.string [a, b, c, d, e][j]) := by
  intro j h
  rw [(Arr.fresh w t [.string a, .string b, .string c, .string d, .string e]).cell]
  match j, h with
  | 0, _ => rfl
  | 1, _ => rfl
  | 2, _ => rfl
  | 3, _ => rfl
  | 4, _ => rfl
theorem flat_five_le {l m d n r : ByteArray} (h1 : l.size ≤ 2000000) (h2 : m.size ≤ 1) (h3 : d.size ≤ 2000000) (h4 : n.size ≤ 1) (h5 : r.size ≤ 2000000) : (flat [l, m, d, n, r]).length ≤ 1099511627776 := by
  rw [flat_five]
  simp only [List.length_append, size_data]
  omega
theorem mark_le (m x : ByteArray) (h : m.size ≤ 1) : (markOf m x).size ≤ 1 := by
  unfold markOf
  split
  · exact Nat.zero_le _
  · exact h

theorem right_le {l d r : ByteArray} (h : jidB l d r = true) : l.size ≤ 30 ∧ d.size ≤ 30 ∧ r.size ≤ 30 := by
  unfold jidB jidB' at h
  simp only [Bool.and_eq_true] at h
  obtain ⟨⟨h1, h2⟩, h3⟩ := h
  have h2' := (domB_iff.1 h2).2.1
  unfold partB at h1 h2' h3
  simp at h1 h2' h3
  exact ⟨h1.1, h2'.1, h3.1⟩
/-- What JidText answers. -/
noncomputable def jidTextS (l d r : ByteArray) : ByteArray := if jidB l d r = true then jidT l d r else ByteArray.empty
theorem jidTextS_yes {l d r : ByteArray} (h : jidB l d r = true) : jidTextS l d r = jidT l d r := by unfold jidTextS; rw [if_pos h]
theorem jidTextS_no {l d r : ByteArray} (h : jidB l d r = false) : jidTextS l d r = ByteArray.empty := by unfold jidTextS; rw [if_neg (by rw [h]; exact Bool.false_ne_true)]
end Go.Proofs.Ytkjkfcljejjpbaa
