/- A peer: its cells. A dialback among the arguments of a law: what its value is. -/
import Derived.Test.YtkjkfcljejjpbaaDoorChecked
import Derived.Test.YtkjkfcljejjpbaaDoorRowsC
import Derived.WalkKit
import Derived.ProofKit
import Derived.OpenShut
import Derived.ShutString
import Derived.Lib.SmallJoins
import Derived.Deep.Slices
namespace Go.Proofs.YtkjkfcljejjpbaaDoor
set_option linter.unusedSimpArgs false
set_option linter.unusedVariables false
open Go.ChangeShapes Go.WideShapes Go.ChangeAt Go.RowKit Go.Joins

structure PrL where
  d : ByteArray
  i : Int
  s : Int
  k : ByteArray
instance : Inhabited PrL := ⟨⟨ByteArray.empty, 0, 0, ByteArray.empty⟩⟩
def prC (x : PrL) : List Value := [.string x.d, .int .i64 x.i, .int .i64 x.s, .string x.k]
def prV (x : PrL) : Value := .agg #[.string x.d, .int .i64 x.i, .int .i64 x.s, .string x.k]
theorem prC_len (x : PrL) : (prC x).length = 4 := rfl
theorem prC_one (x : PrL) : ∀ u ∈ prC x, u.oneCell' = true := by
  intro u hu
  simp [prC] at hu
  rcases hu with rfl | rfl | rfl | rfl <;> rfl
/-- Strings and numbers as the machine has them. -/
def PrL.wf (x : PrL) : Prop := x.d.size ≤ maxLen ∧ (Lit.int .i64 x.i).wf = true ∧ (Lit.int .i64 x.s).wf = true ∧ x.k.size ≤ maxLen
theorem cellsStr6 : Tryd.prog.cellsOf 9 = 1 := by kernel_rfl
theorem cellsI646 : Tryd.prog.cellsOf 2 = 1 := by kernel_rfl
/-- The elements of a slice that came in lie at a stretch of a block. -/
def RowA {α : Type} (enc : α → List Value) (size : Nat) (w : World) (p : Option Addr) (xs : List α) : Prop := xs ≠ [] → ∃ g o, p = some ⟨g, o, none⟩ ∧ g < w.heap.size ∧ ∀ i (h : i < xs.length) j, j < size → w.cell? ⟨g, o + (i * size + j), none⟩ = (enc xs[i])[j]?
theorem RowA.below {α : Type} {enc : α → List Value} {size : Nat} {w w' : World} {p : Option Addr} {xs : List α} (h : RowA enc size w p xs) (hb : Below w.heap.size w w') : RowA enc size w' p xs := by
  intro hx
  obtain ⟨g, o, h1, h2, h3⟩ := h hx
  exact ⟨g, o, h1, Nat.lt_of_lt_of_le h2 hb.size, fun i hi j hj => (hb.cell (p := ⟨g, o + (i * size + j), none⟩) h2).trans (h3 i hi j hj)⟩
end Go.Proofs.YtkjkfcljejjpbaaDoor
