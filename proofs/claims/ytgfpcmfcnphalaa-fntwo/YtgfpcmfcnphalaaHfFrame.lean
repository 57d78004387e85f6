/- A half and a sub among the arguments of a law: what their values are, and how they read. -/
import Derived.Test.YtgfpcmfcnphalaaHfMath
import Derived.WalkKit
import Derived.ProofKit
import Derived.OpenShut
import Derived.ShutString
import Derived.Lib.SmallJoins
namespace Go.Proofs.Ytgfpcmfcnphalaa
set_option linter.unusedSimpArgs false
set_option linter.unusedVariables false
open Go.ChangeShapes Go.WideShapes Go.ChangeAt Go.RowKit Go.Joins

theorem cellsHf : Try.prog.cellsOf 45 = 5 := by kernel_rfl
theorem cellsSb : Try.prog.cellsOf 50 = 2 := by kernel_rfl
theorem cellsI648 : Try.prog.cellsOf 2 = 1 := by kernel_rfl
def hfV (n o t i f : Int) : Value := .agg #[.int .i64 n, .int .i64 o, .int .i64 t, .int .i64 i, .int .i64 f]
def hfD {H : Type} (n o t i f : Int) : DataW H := .agg [.lit (.int .i64 n), .lit (.int .i64 o), .lit (.int .i64 t), .lit (.int .i64 i), .lit (.int .i64 f)]
def sbV (k n : Int) : Value := .agg #[.int .i64 k, .int .i64 n]
def sbD {H : Type} (k n : Int) : DataW H := .agg [.lit (.int .i64 k), .lit (.int .i64 n)]
def SbL.wf (x : SbL) : Prop := (Lit.int .i64 x.k).wf = true ∧ (Lit.int .i64 x.n).wf = true
set_option maxRecDepth 100000 in
theorem half_open {H : Type} {enc : TypeId × Value → H} {W : World} {base : Nat} {sp : Nat → Bool} {held : Bool} {r : Reach} {b0 : Nat} {v : Value} {d : DataW H} {p : List MemPlace}
    (hv : Value.okWide Try.prog W r b0 45 v) (h : DataW.Trod enc Try.prog W base sp held 45 v d p) :
    ∃ n o t i f, v = hfV n o t i f ∧ d = hfD n o t i f ∧ p = [] ∧ HfL.wf ⟨n, o, t, i, f⟩ := by
  obtain ⟨cs, rfl, hsz⟩ := okWide_struct Try.underlying45 hv
  rw [cellsHf] at hsz
  obtain ⟨fuel, hf⟩ := h
  obtain ⟨xs, m, _, hx, hl, hlen, hall⟩ := DataW.trod_struct Try.underlying45 hf
  obtain ⟨l⟩ := cs
  match l, hsz, xs, hlen with
  | [c0, c1, c2, c3, c4], _, [y0, y1, y2, y3, y4], _ =>
    have g0 := hall 0 _ rfl
    have g1 := hall 1 _ rfl
    have g2 := hall 2 _ rfl
    have g3 := hall 3 _ rfl
    have g4 := hall 4 _ rfl
    simp [Value.cells, cellsI648] at g0 g1 g2 g3 g4
    obtain ⟨n, e0, rfl, w0⟩ := DataW.trod_int Try.underlying2 g0
    obtain ⟨o, e1, rfl, w1⟩ := DataW.trod_int Try.underlying2 g1
    obtain ⟨t, e2, rfl, w2⟩ := DataW.trod_int Try.underlying2 g2
    obtain ⟨i, e3, rfl, w3⟩ := DataW.trod_int Try.underlying2 g3
    obtain ⟨f, e4, rfl, w4⟩ := DataW.trod_int Try.underlying2 g4
    simp at e0 e1 e2 e3 e4
    subst e0 e1 e2 e3 e4
    simp at hx
    exact ⟨n, o, t, i, f, rfl, hx.1, hx.2, w0, w1, w2, w3, w4⟩
set_option maxRecDepth 100000 in
theorem half_shut {H : Type} {enc : TypeId × Value → H} {W : World} {base : Nat} {sp : Nat → Bool} {held : Bool} {n o t i f : Int}
    (h : HfL.wf ⟨n, o, t, i, f⟩) : DataW.Trod enc Try.prog W base sp held 45 (hfV n o t i f) (hfD n o t i f) [] := by
  obtain ⟨w0, w1, w2, w3, w4⟩ := h
  have hi : ∀ n : Int, (Lit.int .i64 n).wf = true → DataW.trod enc Try.prog W base sp held 1 2 [.int .i64 n] = some (.lit (.int .i64 n), []) := fun n w => by simp [DataW.trod, Try.underlying2, w]
  have ts := trod_struct_mk (enc := enc) (w := W) (base := base) (spare := sp) (held := held) (n := 1) (cs := [.int .i64 n, .int .i64 o, .int .i64 t, .int .i64 i, .int .i64 f])
    (xs := [(.lit (.int .i64 n), []), (.lit (.int .i64 o), []), (.lit (.int .i64 t), []), (.lit (.int .i64 i), []), (.lit (.int .i64 f), [])]) Try.underlying45 (by simp [cellsHf])
    (by simp [cellsI648, hi n w0, hi o w1, hi t w2, hi i w3, hi f w4])
  exact ⟨2, by simpa [hfV, hfD, Value.cells] using ts⟩
set_option maxRecDepth 100000 in
theorem sub_open {H : Type} {enc : TypeId × Value → H} {W : World} {base : Nat} {sp : Nat → Bool} {held : Bool} {r : Reach} {b0 : Nat} {v : Value} {d : DataW H} {p : List MemPlace}
    (hv : Value.okWide Try.prog W r b0 50 v) (h : DataW.Trod enc Try.prog W base sp held 50 v d p) :
    ∃ k n, v = sbV k n ∧ d = sbD k n ∧ p = [] ∧ SbL.wf ⟨k, n⟩ := by
  obtain ⟨cs, rfl, hsz⟩ := okWide_struct Try.underlying50 hv
  rw [cellsSb] at hsz
  obtain ⟨fuel, hf⟩ := h
  obtain ⟨xs, m, _, hx, hl, hlen, hall⟩ := DataW.trod_struct Try.underlying50 hf
  obtain ⟨l⟩ := cs
  match l, hsz, xs, hlen with
  | [c0, c1], _, [y0, y1], _ =>
    have g0 := hall 0 _ rfl
    have g1 := hall 1 _ rfl
    simp [Value.cells, cellsI648] at g0 g1
    obtain ⟨n, e0, rfl, w0⟩ := DataW.trod_int Try.underlying2 g0
    obtain ⟨o, e1, rfl, w1⟩ := DataW.trod_int Try.underlying2 g1
    simp at e0 e1
    subst e0 e1
    simp at hx
    exact ⟨n, o, rfl, hx.1, hx.2, w0, w1⟩
set_option maxRecDepth 100000 in
theorem sub_shut {H : Type} {enc : TypeId × Value → H} {W : World} {base : Nat} {sp : Nat → Bool} {held : Bool} {k n : Int}
    (h : SbL.wf ⟨k, n⟩) : DataW.Trod enc Try.prog W base sp held 50 (sbV k n) (sbD k n) [] := by
  obtain ⟨w0, w1⟩ := h
  have hi : ∀ n : Int, (Lit.int .i64 n).wf = true → DataW.trod enc Try.prog W base sp held 1 2 [.int .i64 n] = some (.lit (.int .i64 n), []) := fun n w => by simp [DataW.trod, Try.underlying2, w]
  have ts := trod_struct_mk (enc := enc) (w := W) (base := base) (spare := sp) (held := held) (n := 1) (cs := [.int .i64 k, .int .i64 n])
    (xs := [(.lit (.int .i64 k), []), (.lit (.int .i64 n), [])]) Try.underlying50 (by simp [cellsSb])
    (by simp [cellsI648, hi k w0, hi n w1])
  exact ⟨2, by simpa [sbV, sbD, Value.cells] using ts⟩
end Go.Proofs.Ytgfpcmfcnphalaa
