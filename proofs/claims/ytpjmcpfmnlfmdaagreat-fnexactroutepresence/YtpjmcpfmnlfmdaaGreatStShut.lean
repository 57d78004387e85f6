/- A stanza among the arguments, read afterwards. -/
import Derived.Test.YtpjmcpfmnlfmdaaGreatQStA
namespace Go.Proofs.YtpjmcpfmnlfmdaaGreat
set_option linter.unusedSimpArgs false
set_option linter.unusedVariables false
open Go.ChangeShapes Go.WideShapes Go.ChangeAt Go.RowKit Go.Joins
set_option maxRecDepth 10000 in
theorem stanza_shut {H : Type} {enc : TypeId × Value → H} {W : World} {base : Nat} {sp : Nat → Bool} {held : Bool} {k t f o : ByteArray} {n : Int} {b : ByteArray}
    (h : k.size ≤ maxLen ∧ t.size ≤ maxLen ∧ f.size ≤ maxLen ∧ o.size ≤ maxLen ∧ (Lit.int .i64 n).wf = true ∧ b.size ≤ maxLen) : DataW.Trod enc Tryz.prog W base sp held 27 (stV k t f o n b) (stD k t f o n b) [] := by
  obtain ⟨w0, w1, w2, w3, w4, w5⟩ := h
  have hs : ∀ s : ByteArray, s.size ≤ maxLen → DataW.trod enc Tryz.prog W base sp held 1 9 [.string s] = some (.lit (.string s.data.toList), []) := fun s hs => by simp [DataW.trod, Tryz.underlying9, hs]
  have hi : DataW.trod enc Tryz.prog W base sp held 1 2 [.int .i64 n] = some (.lit (.int .i64 n), []) := by simp [DataW.trod, Tryz.underlying2, w4]
  have ts := trod_struct_mk (enc := enc) (w := W) (base := base) (spare := sp) (held := held) (n := 1) (cs := [.string k, .string t, .string f, .string o, .int .i64 n, .string b])
    (xs := [(.lit (.string k.data.toList), []), (.lit (.string t.data.toList), []), (.lit (.string f.data.toList), []), (.lit (.string o.data.toList), []), (.lit (.int .i64 n), []), (.lit (.string b.data.toList), [])]) Tryz.underlying27 (by simp [cellsSt])
    (by simp [cellsStr, cellsI64, hs k w0, hs t w1, hs f w2, hs o w3, hi, hs b w5])
  exact ⟨2, by simpa [stV, stD, Value.cells] using ts⟩
end Go.Proofs.YtpjmcpfmnlfmdaaGreat
