/- A head and a stream among the arguments of a law: what their values are, and how they read. -/
import Derived.Test.YtgcfognljkebjaaChecked
import Derived.WalkKit
import Derived.ProofKit
import Derived.OpenShut
import Derived.ShutString
import Derived.Lib.SmallJoins
namespace Go.Proofs.Ytgcfognljkebjaa
set_option linter.unusedSimpArgs false
set_option linter.unusedVariables false
open Go.ChangeShapes Go.WideShapes Go.ChangeAt Go.RowKit Go.Joins

theorem cellsHd : Try.prog.cellsOf 23 = 3 := by kernel_rfl
theorem cellsStr5 : Try.prog.cellsOf 9 = 1 := by kernel_rfl
theorem cellsI645 : Try.prog.cellsOf 2 = 1 := by kernel_rfl
theorem cellsBo5 : Try.prog.cellsOf 4 = 1 := by kernel_rfl
theorem cellsSm : Try.prog.cellsOf 25 = 7 := by kernel_rfl
def hdV (f o : ByteArray) (n : Int) : Value := .agg #[.string f, .string o, .int .i64 n]
def hdD {H : Type} (f o : ByteArray) (n : Int) : DataW H := .agg [.lit (.string f.data.toList), .lit (.string o.data.toList), .lit (.int .i64 n)]
def smV (f o : ByteArray) (n : Int) (r : ByteArray) (p c d : Bool) : Value := .agg #[.string f, .string o, .int .i64 n, .string r, .bool p, .bool c, .bool d]
def smD {H : Type} (f o : ByteArray) (n : Int) (r : ByteArray) (p c d : Bool) : DataW H := .agg [hdD f o n, .lit (.string r.data.toList), .lit (.bool p), .lit (.bool c), .lit (.bool d)]
def hdW (f o : ByteArray) (n : Int) : Prop := f.size ≤ maxLen ∧ o.size ≤ maxLen ∧ (Lit.int .i64 n).wf = true
def smW (f o : ByteArray) (n : Int) (r : ByteArray) : Prop := f.size ≤ maxLen ∧ o.size ≤ maxLen ∧ (Lit.int .i64 n).wf = true ∧ r.size ≤ maxLen
set_option maxRecDepth 100000 in
theorem head_trod {H : Type} {enc : TypeId × Value → H} {W : World} {base : Nat} {sp : Nat → Bool} {held : Bool} {fuel : Nat} {c0 c1 c2 : Value} {x : DataW H × List MemPlace}
    (hf : DataW.trod enc Try.prog W base sp held fuel 23 [c0, c1, c2] = some x) :
    ∃ f o n, c0 = .string f ∧ c1 = .string o ∧ c2 = .int .i64 n ∧ x = (hdD f o n, []) ∧ hdW f o n := by
  obtain ⟨xs, m, _, hx, hl, hlen, hall⟩ := DataW.trod_struct Try.underlying23 hf
  match xs, hlen with
  | [y0, y1, y2], _ =>
    have g0 := hall 0 _ rfl
    have g1 := hall 1 _ rfl
    have g2 := hall 2 _ rfl
    simp [Value.cells, cellsStr5, cellsI645] at g0 g1 g2
    obtain ⟨f, e0, rfl, w0⟩ := DataW.trod_string Try.underlying9 g0
    obtain ⟨o, e1, rfl, w1⟩ := DataW.trod_string Try.underlying9 g1
    obtain ⟨n, e2, rfl, w2⟩ := DataW.trod_int Try.underlying2 g2
    simp at e0 e1 e2
    subst e0 e1 e2
    simp at hx
    exact ⟨f, o, n, rfl, rfl, rfl, hx, w0, w1, w2⟩
set_option maxRecDepth 100000 in
theorem head_open {H : Type} {enc : TypeId × Value → H} {W : World} {base : Nat} {sp : Nat → Bool} {held : Bool} {r : Reach} {b0 : Nat} {v : Value} {d : DataW H} {p : List MemPlace}
    (hv : Value.okWide Try.prog W r b0 23 v) (h : DataW.Trod enc Try.prog W base sp held 23 v d p) :
    ∃ f o n, v = hdV f o n ∧ d = hdD f o n ∧ p = [] ∧ hdW f o n := by
  obtain ⟨cs, rfl, hsz⟩ := okWide_struct Try.underlying23 hv
  rw [cellsHd] at hsz
  obtain ⟨fuel, hf⟩ := h
  obtain ⟨l⟩ := cs
  match l, hsz with
  | [c0, c1, c2], _ =>
    obtain ⟨f, o, n, rfl, rfl, rfl, hx, hw⟩ := head_trod hf
    simp at hx
    exact ⟨f, o, n, rfl, hx.1, hx.2, hw⟩
set_option maxRecDepth 100000 in
theorem stream_open {H : Type} {enc : TypeId × Value → H} {W : World} {base : Nat} {sp : Nat → Bool} {held : Bool} {r : Reach} {b0 : Nat} {v : Value} {d : DataW H} {p : List MemPlace}
    (hv : Value.okWide Try.prog W r b0 25 v) (h : DataW.Trod enc Try.prog W base sp held 25 v d p) :
    ∃ f o n r op cl de, v = smV f o n r op cl de ∧ d = smD f o n r op cl de ∧ p = [] ∧ smW f o n r := by
  obtain ⟨cs, rfl, hsz⟩ := okWide_struct Try.underlying25 hv
  rw [cellsSm] at hsz
  obtain ⟨fuel, hf⟩ := h
  obtain ⟨xs, m, _, hx, hl, hlen, hall⟩ := DataW.trod_struct Try.underlying25 hf
  obtain ⟨l⟩ := cs
  match l, hsz, xs, hlen with
  | [c0, c1, c2, c3, c4, c5, c6], _, [y0, y1, y2, y3, y4], _ =>
    have g0 := hall 0 _ rfl
    have g1 := hall 1 _ rfl
    have g2 := hall 2 _ rfl
    have g3 := hall 3 _ rfl
    have g4 := hall 4 _ rfl
    simp [Value.cells, cellsStr5, cellsBo5, cellsHd] at g0 g1 g2 g3 g4
    obtain ⟨f, o, n, rfl, rfl, rfl, rfl, w0, w1, w2⟩ := head_trod g0
    obtain ⟨r, e1, rfl, w3⟩ := DataW.trod_string Try.underlying9 g1
    obtain ⟨op, e2, rfl⟩ := DataW.trod_bool Try.underlying4 g2
    obtain ⟨cl, e3, rfl⟩ := DataW.trod_bool Try.underlying4 g3
    obtain ⟨de, e4, rfl⟩ := DataW.trod_bool Try.underlying4 g4
    simp at e1 e2 e3 e4
    subst e1 e2 e3 e4
    simp at hx
    exact ⟨f, o, n, r, op, cl, de, rfl, hx.1, hx.2, w0, w1, w2, w3⟩
set_option maxRecDepth 100000 in
theorem head_run {H : Type} {enc : TypeId × Value → H} {W : World} {base : Nat} {sp : Nat → Bool} {held : Bool} {f o : ByteArray} {n : Int} (h : hdW f o n) :
    DataW.trod enc Try.prog W base sp held 2 23 [.string f, .string o, .int .i64 n] = some (hdD f o n, []) := by
  obtain ⟨w0, w1, w2⟩ := h
  have hs : ∀ s : ByteArray, s.size ≤ maxLen → DataW.trod enc Try.prog W base sp held 1 9 [.string s] = some (.lit (.string s.data.toList), []) := fun s hs => by simp [DataW.trod, Try.underlying9, hs]
  have hi : DataW.trod enc Try.prog W base sp held 1 2 [.int .i64 n] = some (.lit (.int .i64 n), []) := by simp [DataW.trod, Try.underlying2, w2]
  have ts := trod_struct_mk (enc := enc) (w := W) (base := base) (spare := sp) (held := held) (n := 1) (cs := [.string f, .string o, .int .i64 n])
    (xs := [(.lit (.string f.data.toList), []), (.lit (.string o.data.toList), []), (.lit (.int .i64 n), [])]) Try.underlying23 (by simp [cellsHd])
    (by simp [cellsStr5, cellsI645, hs f w0, hs o w1, hi])
  simpa [hdD] using ts
set_option maxRecDepth 100000 in
theorem head_shut {H : Type} {enc : TypeId × Value → H} {W : World} {base : Nat} {sp : Nat → Bool} {held : Bool} {f o : ByteArray} {n : Int} (h : hdW f o n) :
    DataW.Trod enc Try.prog W base sp held 23 (hdV f o n) (hdD f o n) [] := ⟨2, by simpa [hdV, Value.cells] using head_run h⟩
set_option maxRecDepth 100000 in
theorem stream_shut {H : Type} {enc : TypeId × Value → H} {W : World} {base : Nat} {sp : Nat → Bool} {held : Bool} {f o : ByteArray} {n : Int} {r : ByteArray} {op cl de : Bool} (h : smW f o n r) :
    DataW.Trod enc Try.prog W base sp held 25 (smV f o n r op cl de) (smD f o n r op cl de) [] := by
  obtain ⟨w0, w1, w2, w3⟩ := h
  have h0 := head_run (enc := enc) (W := W) (base := base) (sp := sp) (held := held) (f := f) (o := o) (n := n) ⟨w0, w1, w2⟩
  have hs : DataW.trod enc Try.prog W base sp held 2 9 [.string r] = some (.lit (.string r.data.toList), []) := by simp [DataW.trod, Try.underlying9, w3]
  have hb : ∀ b : Bool, DataW.trod enc Try.prog W base sp held 2 4 [.bool b] = some (.lit (.bool b), []) := fun b => by simp [DataW.trod, Try.underlying4]
  have ts := trod_struct_mk (enc := enc) (w := W) (base := base) (spare := sp) (held := held) (n := 2) (cs := [.string f, .string o, .int .i64 n, .string r, .bool op, .bool cl, .bool de])
    (xs := [(hdD f o n, []), (.lit (.string r.data.toList), []), (.lit (.bool op), []), (.lit (.bool cl), []), (.lit (.bool de), [])]) Try.underlying25 (by simp [cellsSm])
    (by simp [cellsStr5, cellsBo5, cellsHd, h0, hs, hb])
  exact ⟨3, by simpa [smV, smD, Value.cells] using ts⟩
end Go.Proofs.Ytgcfognljkebjaa
