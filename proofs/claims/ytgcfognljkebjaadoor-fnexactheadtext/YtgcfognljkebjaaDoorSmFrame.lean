/- A head and a stream among the arguments of a law: what their values are, and how they read. -/
import Derived.Test.YtgcfognljkebjaaDoorChecked
import Derived.WalkKit
import Derived.ProofKit
import Derived.OpenShut
import Derived.ShutString
import Derived.Lib.SmallJoins
namespace Go.Proofs.YtgcfognljkebjaaDoor
set_option linter.unusedSimpArgs false
set_option linter.unusedVariables false
open Go.ChangeShapes Go.WideShapes Go.ChangeAt Go.RowKit Go.Joins

theorem cellsHd : Tryd.prog.cellsOf 23 = 3 := by kernel_rfl
theorem cellsStr5 : Tryd.prog.cellsOf 9 = 1 := by kernel_rfl
theorem cellsI645 : Tryd.prog.cellsOf 2 = 1 := by kernel_rfl
theorem cellsBo5 : Tryd.prog.cellsOf 4 = 1 := by kernel_rfl
def hdV (f o : ByteArray) (n : Int) : Value := .agg #[.string f, .string o, .int .i64 n]
def hdD {H : Type} (f o : ByteArray) (n : Int) : DataW H := .agg [.lit (.string f.data.toList), .lit (.string o.data.toList), .lit (.int .i64 n)]
def smV (f o : ByteArray) (n : Int) (r : ByteArray) (p c d : Bool) : Value := .agg #[.string f, .string o, .int .i64 n, .string r, .bool p, .bool c, .bool d]
def smD {H : Type} (f o : ByteArray) (n : Int) (r : ByteArray) (p c d : Bool) : DataW H := .agg [hdD f o n, .lit (.string r.data.toList), .lit (.bool p), .lit (.bool c), .lit (.bool d)]
def hdW (f o : ByteArray) (n : Int) : Prop := f.size ≤ maxLen ∧ o.size ≤ maxLen ∧ (Lit.int .i64 n).wf = true
def smW (f o : ByteArray) (n : Int) (r : ByteArray) : Prop := f.size ≤ maxLen ∧ o.size ≤ maxLen ∧ (Lit.int .i64 n).wf = true ∧ r.size ≤ maxLen
set_option maxRecDepth 100000 in
theorem head_trod {H : Type} {enc : TypeId × Value → H} {W : World} {base : Nat} {sp : Nat → Bool} {held : Bool} {fuel : Nat} {c0 c1 c2 : Value} {x : DataW H × List MemPlace}
    (hf : DataW.trod enc Tryd.prog W base sp held fuel 23 [c0, c1, c2] = some x) :
    ∃ f o n, c0 = .string f ∧ c1 = .string o ∧ c2 = .int .i64 n ∧ x = (hdD f o n, []) ∧ hdW f o n := by
  obtain ⟨xs, m, _, hx, hl, hlen, hall⟩ := DataW.trod_struct Tryd.underlying23 hf
  match xs, hlen with
  | [y0, y1, y2], _ =>
    have g0 := hall 0 _ rfl
    have g1 := hall 1 _ rfl
    have g2 := hall 2 _ rfl
    simp [Value.cells, cellsStr5, cellsI645] at g0 g1 g2
    obtain ⟨f, e0, rfl, w0⟩ := DataW.trod_string Tryd.underlying9 g0
    obtain ⟨o, e1, rfl, w1⟩ := DataW.trod_string Tryd.underlying9 g1
    obtain ⟨n, e2, rfl, w2⟩ := DataW.trod_int Tryd.underlying2 g2
    simp at e0 e1 e2
    subst e0 e1 e2
    simp at hx
    exact ⟨f, o, n, rfl, rfl, rfl, hx, w0, w1, w2⟩
set_option maxRecDepth 100000 in
theorem head_open {H : Type} {enc : TypeId × Value → H} {W : World} {base : Nat} {sp : Nat → Bool} {held : Bool} {r : Reach} {b0 : Nat} {v : Value} {d : DataW H} {p : List MemPlace}
    (hv : Value.okWide Tryd.prog W r b0 23 v) (h : DataW.Trod enc Tryd.prog W base sp held 23 v d p) :
    ∃ f o n, v = hdV f o n ∧ d = hdD f o n ∧ p = [] ∧ hdW f o n := by
  obtain ⟨cs, rfl, hsz⟩ := okWide_struct Tryd.underlying23 hv
  rw [cellsHd] at hsz
  obtain ⟨fuel, hf⟩ := h
  obtain ⟨l⟩ := cs
  match l, hsz with
  | [c0, c1, c2], _ =>
    obtain ⟨f, o, n, rfl, rfl, rfl, hx, hw⟩ := head_trod hf
    simp at hx
    exact ⟨f, o, n, rfl, hx.1, hx.2, hw⟩
set_option maxRecDepth 100000 in
theorem head_run {H : Type} {enc : TypeId × Value → H} {W : World} {base : Nat} {sp : Nat → Bool} {held : Bool} {f o : ByteArray} {n : Int} (h : hdW f o n) :
    DataW.trod enc Tryd.prog W base sp held 2 23 [.string f, .string o, .int .i64 n] = some (hdD f o n, []) := by
  obtain ⟨w0, w1, w2⟩ := h
  have hs : ∀ s : ByteArray, s.size ≤ maxLen → DataW.trod enc Tryd.prog W base sp held 1 9 [.string s] = some (.lit (.string s.data.toList), []) := fun s hs => by simp [DataW.trod, Tryd.underlying9, hs]
  have hi : DataW.trod enc Tryd.prog W base sp held 1 2 [.int .i64 n] = some (.lit (.int .i64 n), []) := by simp [DataW.trod, Tryd.underlying2, w2]
  have ts := trod_struct_mk (enc := enc) (w := W) (base := base) (spare := sp) (held := held) (n := 1) (cs := [.string f, .string o, .int .i64 n])
    (xs := [(.lit (.string f.data.toList), []), (.lit (.string o.data.toList), []), (.lit (.int .i64 n), [])]) Tryd.underlying23 (by simp [cellsHd])
    (by simp [cellsStr5, cellsI645, hs f w0, hs o w1, hi])
  simpa [hdD] using ts
set_option maxRecDepth 100000 in
theorem head_shut {H : Type} {enc : TypeId × Value → H} {W : World} {base : Nat} {sp : Nat → Bool} {held : Bool} {f o : ByteArray} {n : Int} (h : hdW f o n) :
    DataW.Trod enc Tryd.prog W base sp held 23 (hdV f o n) (hdD f o n) [] := ⟨2, by simpa [hdV, Value.cells] using head_run h⟩
end Go.Proofs.YtgcfognljkebjaaDoor
