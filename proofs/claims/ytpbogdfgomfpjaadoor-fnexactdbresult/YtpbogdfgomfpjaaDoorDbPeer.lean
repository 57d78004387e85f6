/- A peer: its cells. A dialback among the arguments of a law: what its value is. -/
import Derived.Test.YtpbogdfgomfpjaaDoorChecked
import Derived.Test.YtpbogdfgomfpjaaDoorRowsC
import Derived.WalkKit
import Derived.ProofKit
import Derived.OpenShut
import Derived.ShutString
import Derived.Lib.SmallJoins
import Derived.Deep.Slices
namespace Go.Proofs.YtpbogdfgomfpjaaDoor
set_option linter.unusedSimpArgs false
set_option linter.unusedVariables false
open Go.ChangeShapes Go.WideShapes Go.ChangeAt Go.RowKit Go.Joins

structure PrL where
  d : ByteArray
  i : Int
  s : Int
  k : ByteArray
instance : Inhabited PrL := ⟨⟨ByteArray.empty, 0, 0, ByteArray.empty⟩⟩
def prC (x : PrL) : List Value := [.string x.d, .int .i64 x.i, .int .i64 x.s, .string x.k]
def prV (x : PrL) : Value := .agg #[.string x.d, .int .i64 x.i, .int .i64 x.s, .string x.k]
theorem prC_len (x : PrL) : (prC x).length = 4 := rfl
theorem prC_one (x : PrL) : ∀ u ∈ prC x, u.oneCell' = true := by
  intro u hu
  simp [prC] at hu
  rcases hu with rfl | rfl | rfl | rfl <;> rfl
/-- Strings and numbers as the machine has them. -/
def PrL.wf (x : PrL) : Prop := x.d.size ≤ maxLen ∧ (Lit.int .i64 x.i).wf = true ∧ (Lit.int .i64 x.s).wf = true ∧ x.k.size ≤ maxLen
theorem cellsPr : Tryd.prog.cellsOf 110 = 4 := by kernel_rfl
theorem cellsDb : Tryd.prog.cellsOf 54 = 3 := by kernel_rfl
theorem cellsStr6 : Tryd.prog.cellsOf 9 = 1 := by kernel_rfl
theorem cellsI646 : Tryd.prog.cellsOf 2 = 1 := by kernel_rfl
theorem cellsPs : Tryd.prog.cellsOf 52 = 1 := by kernel_rfl
/-- The elements of a slice that came in lie at a stretch of a block. -/
def RowA {α : Type} (enc : α → List Value) (size : Nat) (w : World) (p : Option Addr) (xs : List α) : Prop := xs ≠ [] → ∃ g o, p = some ⟨g, o, none⟩ ∧ g < w.heap.size ∧ ∀ i (h : i < xs.length) j, j < size → w.cell? ⟨g, o + (i * size + j), none⟩ = (enc xs[i])[j]?
theorem RowA.below {α : Type} {enc : α → List Value} {size : Nat} {w w' : World} {p : Option Addr} {xs : List α} (h : RowA enc size w p xs) (hb : Below w.heap.size w w') : RowA enc size w' p xs := by
  intro hx
  obtain ⟨g, o, h1, h2, h3⟩ := h hx
  exact ⟨g, o, h1, Nat.lt_of_lt_of_le h2 hb.size, fun i hi j hj => (hb.cell (p := ⟨g, o + (i * size + j), none⟩) h2).trans (h3 i hi j hj)⟩
set_option maxRecDepth 100000 in
theorem peer_trod {H : Type} {enc : TypeId × Value → H} {W : World} {base : Nat} {sp : Nat → Bool} {held : Bool} {fuel : Nat} {c0 c1 c2 c3 : Value} {x : DataW H × List MemPlace}
    (hf : DataW.trod enc Tryd.prog W base sp held fuel 110 [c0, c1, c2, c3] = some x) : ∃ p : PrL, [c0, c1, c2, c3] = prC p ∧ p.wf := by
  obtain ⟨xs, m, _, hx, hl, hlen, hall⟩ := DataW.trod_struct Tryd.underlying110 hf
  match xs, hlen with
  | [y0, y1, y2, y3], _ =>
    have g0 := hall 0 _ rfl
    have g1 := hall 1 _ rfl
    have g2 := hall 2 _ rfl
    have g3 := hall 3 _ rfl
    simp [Value.cells, cellsStr6, cellsI646] at g0 g1 g2 g3
    obtain ⟨d, e0, _, w0⟩ := DataW.trod_string Tryd.underlying9 g0
    obtain ⟨i, e1, _, w1⟩ := DataW.trod_int Tryd.underlying2 g1
    obtain ⟨s, e2, _, w2⟩ := DataW.trod_int Tryd.underlying2 g2
    obtain ⟨k, e3, _, w3⟩ := DataW.trod_string Tryd.underlying9 g3
    simp at e0 e1 e2 e3
    subst e0 e1 e2 e3
    exact ⟨⟨d, i, s, k⟩, rfl, w0, w1, w2, w3⟩
end Go.Proofs.YtpbogdfgomfpjaaDoor
