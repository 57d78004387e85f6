/- A dialback among the arguments of a law. -/
import Derived.Test.YtkjkfcljejjpbaaDoorDbPeer
namespace Go.Proofs.YtkjkfcljejjpbaaDoor
set_option linter.unusedSimpArgs false
set_option linter.unusedVariables false
open Go.ChangeShapes Go.WideShapes Go.ChangeAt Go.RowKit Go.Joins

/-- A slice of peers among the arguments. -/
def PsArg (W : World) (a : Option Addr) (len : Nat) (ps : List PrL) : Prop := ps.length = len ∧ len ≤ maxLen ∧ (∀ p ∈ ps, p.wf) ∧ RowA prC 4 W a ps
theorem addr_plain {w : World} {x : Addr} {v : Value} (h : w.cell? x = some v) : x = ⟨x.block, x.off, none⟩ := by
  obtain ⟨b, off, sp⟩ := x
  cases sp with
  | none => rfl
  | some s =>
    simp [World.cell?] at h
    split at h <;> cases h
theorem mapM_four {f : Nat → Option Value} {cs : List Value} (h : (List.range 4).mapM f = some cs) : ∃ c0 c1 c2 c3, cs = [c0, c1, c2, c3] ∧ f 0 = some c0 ∧ f 1 = some c1 ∧ f 2 = some c2 ∧ f 3 = some c3 := by
  rw [show List.range 4 = [0, 1, 2, 3] from rfl] at h
  simp only [List.mapM_cons, List.mapM_nil, Option.bind_eq_bind, Option.pure_def] at h
  cases h0 : f 0 with
  | none => rw [h0] at h; simp at h
  | some c0 =>
    cases h1 : f 1 with
    | none => rw [h0, h1] at h; simp at h
    | some c1 =>
      cases h2 : f 2 with
      | none => rw [h0, h1, h2] at h; simp at h
      | some c2 =>
        cases h3 : f 3 with
        | none => rw [h0, h1, h2, h3] at h; simp at h
        | some c3 =>
          rw [h0, h1, h2, h3] at h
          simp at h
          exact ⟨c0, c1, c2, c3, h.symm, rfl, rfl, rfl, rfl⟩
theorem cells_four {W : World} {base : Nat} {a : Addr} {cs : List Value} (h : W.cells? base a 4 = some cs) : ∃ c0 c1 c2 c3, cs = [c0, c1, c2, c3] ∧ W.cell? (a.add 0) = some c0 ∧ W.cell? (a.add 1) = some c1 ∧ W.cell? (a.add 2) = some c2 ∧ W.cell? (a.add 3) = some c3 := by
  unfold World.cells? at h
  split at h
  · exact mapM_four h
  · cases h
def dbV (d : ByteArray) (n : Int) (a : Option Addr) (len cap : Nat) : Value := .agg #[.string d, .int .i64 n, .slice a len cap]
/-- A dialback among the arguments. -/
def DbArg (W : World) (d : ByteArray) (n : Int) (a : Option Addr) (len : Nat) (ps : List PrL) : Prop := d.size ≤ maxLen ∧ (Lit.int .i64 n).wf = true ∧ PsArg W a len ps
end Go.Proofs.YtkjkfcljejjpbaaDoor
