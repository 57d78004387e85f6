/- A stanza among the arguments of a law: what its value is, and how it reads. -/
import Derived.Test.YtihjgkicmgomcaaDoorChecked
import Derived.WalkKit
import Derived.ProofKit
import Derived.OpenShut
import Derived.ShutString
import Derived.Lib.SmallJoins
namespace Go.Proofs.YtihjgkicmgomcaaDoor
set_option linter.unusedSimpArgs false
set_option linter.unusedVariables false
open Go.ChangeShapes Go.WideShapes Go.ChangeAt Go.RowKit Go.Joins

theorem cellsSt : Tryd.prog.cellsOf 23 = 6 := by kernel_rfl
theorem cellsStr : Tryd.prog.cellsOf 9 = 1 := by kernel_rfl
theorem cellsI64 : Tryd.prog.cellsOf 2 = 1 := by kernel_rfl
def stV (k t f o : ByteArray) (n : Int) (b : ByteArray) : Value := .agg #[.string k, .string t, .string f, .string o, .int .i64 n, .string b]
def stD {H : Type} (k t f o : ByteArray) (n : Int) (b : ByteArray) : DataW H :=
  .agg [.lit (.string k.data.toList), .lit (.string t.data.toList), .lit (.string f.data.toList), .lit (.string o.data.toList), .lit (.int .i64 n), .lit (.string b.data.toList)]
set_option maxRecDepth 10000 in
theorem stanza_open {H : Type} {enc : TypeId × Value → H} {W : World} {base : Nat} {sp : Nat → Bool} {held : Bool} {r : Reach} {b0 : Nat} {v : Value} {d : DataW H} {p : List MemPlace}
    (hv : Value.okWide Tryd.prog W r b0 23 v) (h : DataW.Trod enc Tryd.prog W base sp held 23 v d p) :
    ∃ k t f o n b, v = stV k t f o n b ∧ d = stD k t f o n b ∧ p = [] ∧ (k.size ≤ maxLen ∧ t.size ≤ maxLen ∧ f.size ≤ maxLen ∧ o.size ≤ maxLen ∧ (Lit.int .i64 n).wf = true ∧ b.size ≤ maxLen) := by
  obtain ⟨cs, rfl, hsz⟩ := okWide_struct Tryd.underlying23 hv
  rw [cellsSt] at hsz
  obtain ⟨fuel, hf⟩ := h
  obtain ⟨xs, m, _, hx, hl, hlen, hall⟩ := DataW.trod_struct Tryd.underlying23 hf
  obtain ⟨l⟩ := cs
  match l, hsz, xs, hlen with
  | [c0, c1, c2, c3, c4, c5], _, [y0, y1, y2, y3, y4, y5], _ =>
    have g0 := hall 0 _ rfl
    have g1 := hall 1 _ rfl
    have g2 := hall 2 _ rfl
    have g3 := hall 3 _ rfl
    have g4 := hall 4 _ rfl
    have g5 := hall 5 _ rfl
    simp [Value.cells, cellsStr, cellsI64] at g0 g1 g2 g3 g4 g5
    obtain ⟨k, e0, rfl, w0⟩ := DataW.trod_string Tryd.underlying9 g0
    obtain ⟨t, e1, rfl, w1⟩ := DataW.trod_string Tryd.underlying9 g1
    obtain ⟨f, e2, rfl, w2⟩ := DataW.trod_string Tryd.underlying9 g2
    obtain ⟨o, e3, rfl, w3⟩ := DataW.trod_string Tryd.underlying9 g3
    obtain ⟨n, e4, rfl, w4⟩ := DataW.trod_int Tryd.underlying2 g4
    obtain ⟨b, e5, rfl, w5⟩ := DataW.trod_string Tryd.underlying9 g5
    simp at e0 e1 e2 e3 e4 e5
    subst e0 e1 e2 e3 e4 e5
    simp at hx
    exact ⟨k, t, f, o, n, b, rfl, hx.1, hx.2, w0, w1, w2, w3, w4, w5⟩
set_option maxRecDepth 10000 in
theorem stanza_shut {H : Type} {enc : TypeId × Value → H} {W : World} {base : Nat} {sp : Nat → Bool} {held : Bool} {k t f o : ByteArray} {n : Int} {b : ByteArray}
    (h : k.size ≤ maxLen ∧ t.size ≤ maxLen ∧ f.size ≤ maxLen ∧ o.size ≤ maxLen ∧ (Lit.int .i64 n).wf = true ∧ b.size ≤ maxLen) : DataW.Trod enc Tryd.prog W base sp held 23 (stV k t f o n b) (stD k t f o n b) [] := by
  obtain ⟨w0, w1, w2, w3, w4, w5⟩ := h
  have hs : ∀ s : ByteArray, s.size ≤ maxLen → DataW.trod enc Tryd.prog W base sp held 1 9 [.string s] = some (.lit (.string s.data.toList), []) := fun s hs => by simp [DataW.trod, Tryd.underlying9, hs]
  have hi : DataW.trod enc Tryd.prog W base sp held 1 2 [.int .i64 n] = some (.lit (.int .i64 n), []) := by simp [DataW.trod, Tryd.underlying2, w4]
  have ts := trod_struct_mk (enc := enc) (w := W) (base := base) (spare := sp) (held := held) (n := 1) (cs := [.string k, .string t, .string f, .string o, .int .i64 n, .string b])
    (xs := [(.lit (.string k.data.toList), []), (.lit (.string t.data.toList), []), (.lit (.string f.data.toList), []), (.lit (.string o.data.toList), []), (.lit (.int .i64 n), []), (.lit (.string b.data.toList), [])]) Tryd.underlying23 (by simp [cellsSt])
    (by simp [cellsStr, cellsI64, hs k w0, hs t w1, hs f w2, hs o w3, hi, hs b w5])
  exact ⟨2, by simpa [stV, stD, Value.cells] using ts⟩
end Go.Proofs.YtihjgkicmgomcaaDoor
