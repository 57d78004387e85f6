/- What spec.l03Read and spec.JidRead answer. -/
import Derived.Test.YtkjkfcljejjpbaaJidReadI
namespace Go.Proofs.Ytkjkfcljejjpbaa
set_option linter.unusedSimpArgs false
set_option linter.unusedVariables false
open Go.RowKit

theorem ext_str (s : ByteArray) (A B C : List UInt8) (h : s.data.toList = A ++ B ++ C) (i j : Nat) (hi : i = A.length) (hj : j = A.length + B.length) : s.extract i j = strOf B := by
  apply WideShapes.bytes_inj
  rw [strOf_data, ByteArray.data_extract, Array.toList_extract, h, hi, hj]
  simp [List.extract_eq_take_drop, List.drop_append_of_le_length, List.take_append_of_le_length]
theorem arr_other {w : World} {b t : Nat} {cs : List Value} (h : Arr w b t cs) (g i : Nat) (u : Value) (hne : b ≠ g) : Arr (w.setCell ⟨g, i, none⟩ u) b t cs := by
  unfold Arr at h ⊢
  rw [← h]
  exact Below.heap_setCell w ⟨g, i, none⟩ u b (by simpa using hne)
/-- What l03Read answers. -/
def ReadsTo (T : List UInt8) (w : World) (e : Ending) (w' : World) : Prop :=
  (∃ x y z b, e = .returned (.tuple #[.agg #[.string x, .string y, .string z], .bool b]) ∧ b = goodR T ∧ (b = true → x = strOf (readL T).1 ∧ y = strOf (readL T).2.1 ∧ z = strOf (readL T).2.2)) ∧ Below w.heap.size w w'
theorem readsTo_no {T : List UInt8} {w : World} {x y z : ByteArray} {w' : World} (h : shapeL T = false) (hb : Below w.heap.size w w') : ReadsTo T w (.returned (.tuple #[.agg #[.string x, .string y, .string z], .bool false])) w' :=
  ⟨⟨x, y, z, false, rfl, by unfold goodR; rw [h]; rfl, fun h => by cases h⟩, hb⟩
theorem readsTo_yes {T l d r : List UInt8} {w : World} {w' : World} (h : shapeL T = true) (hr : readL T = (l, d, r)) (hb : Below w.heap.size w w') :
    ReadsTo T w (.returned (.tuple #[.agg #[.string (strOf l), .string (strOf d), .string (strOf r)], .bool (jidB (strOf l) (strOf d) (strOf r))])) w' :=
  ⟨⟨_, _, _, _, rfl, by unfold goodR; rw [h, hr]; rfl, fun _ => by rw [hr]; exact ⟨rfl, rfl, rfl⟩⟩, hb⟩
theorem readV_form (s : ByteArray) : ∃ l d r c, jidReadV s = jo l d r c := by
  unfold jidReadV
  split
  · exact ⟨_, _, _, _, rfl⟩
  · split <;> exact ⟨_, _, _, _, rfl⟩
/-- A box of four cells that was laid ahead of a call stands behind it. -/
theorem four_kept {w w1 : World} {a b c d : Value} {t : Nat} (h : Below (w.alloc (.cells #[a, b, c, d] t)).heap.size (w.alloc (.cells #[a, b, c, d] t)) w1) :
    (w1.cell? ⟨w.heap.size, 0, none⟩ = some a ∧ w1.cell? ⟨w.heap.size, 1, none⟩ = some b ∧ w1.cell? ⟨w.heap.size, 2, none⟩ = some c ∧ w1.cell? ⟨w.heap.size, 3, none⟩ = some d) ∧ w.heap.size < w1.heap.size := by
  have hA : Arr w1 w.heap.size t [a, b, c, d] := (h.block w.heap.size (by simp)).trans (Arr.fresh w t [a, b, c, d])
  exact ⟨(arr_four hA).1, arr_lt hA⟩
end Go.Proofs.Ytkjkfcljejjpbaa
