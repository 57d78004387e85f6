/- When sessions are valid; what the functions on sessions answer. -/
import Derived.Test.YtkdljhmenejckaaSeRow
import Derived.Test.YtkdljhmenejckaaJidParts
namespace Go.Proofs.Ytkdljhmenejckaa
set_option linter.unusedSimpArgs false
set_option linter.unusedVariables false
open Go.RowKit

/-- The shows. -/
def showB (t : ByteArray) : Bool := [[], [97, 119, 97, 121], [99, 104, 97, 116], [100, 110, 100], [120, 97]].contains t.toList
def resB (t : ByteArray) : Bool := decide (0 < t.size) && partB resC t
/-- A valid session. -/
def seB (x : SeL) : Bool := (x.o || (decide (x.p = 0) && decide (x.s.size = 0))) && resB x.r && (decide (-128 ≤ x.p) && decide (x.p ≤ 127)) && showB x.s
def AllR (xs : List SeL) (n : Nat) : Prop := ∀ i (h : i < xs.length), i < n → seB xs[i] = true
/-- Valid sessions. -/
def SeOk (xs : List SeL) : Prop := xs.length ≤ 5 ∧ IncR xs xs.length ∧ AllR xs xs.length
open Classical in
noncomputable def okB (xs : List SeL) : Bool := decide (SeOk xs)
theorem okB_true {xs : List SeL} (h : SeOk xs) : okB xs = true := by unfold okB; simpa using h
theorem okB_false {xs : List SeL} (h : ¬ SeOk xs) : okB xs = false := by unfold okB; simpa using h
theorem okB_iff {xs : List SeL} : okB xs = true ↔ SeOk xs := by unfold okB; simp
theorem allR_zero (xs : List SeL) : AllR xs 0 := fun i _ h => absurd h (Nat.not_lt_zero _)
theorem allR_succ {xs : List SeL} {k : Nat} (h : AllR xs k) (hk : k < xs.length) (h1 : seB xs[k] = true) : AllR xs (k + 1) := by
  intro i hi hlt
  by_cases e : i = k
  · subst e; exact h1
  · exact h i hi (by omega)
/-- An answer: sessions, code. -/
structure SoL where
  l : List SeL
  c : Int
def illS (c : Int) : SoL := ⟨[], c⟩
def newS (r : ByteArray) : SeL := ⟨r, false, 0, ⟨#[]⟩⟩
noncomputable def bindR (xs : List SeL) (r : ByteArray) : SoL :=
  if 400 < xs.length ∨ 20000 < r.size then illS 2 else if okB xs = false ∨ resB r = false then illS 1 else if hereB r xs = true then illS 7 else if xs.length = 5 then illS 9
  else ⟨xs.take (posS r xs) ++ newS r :: xs.drop (posS r xs), 0⟩
noncomputable def unbindR (xs : List SeL) (r : ByteArray) : SoL :=
  if 400 < xs.length ∨ 20000 < r.size then illS 2 else if okB xs = false then illS 1 else if hereB r xs = false then illS 6
  else ⟨xs.take (posS r xs) ++ xs.drop (posS r xs + 1), 0⟩
/-- The session of its resource is replaced, if the new one is valid. -/
noncomputable def withR (xs : List SeL) (y : SeL) : SoL :=
  if 400 < xs.length ∨ 20000 < y.r.size then illS 2 else if okB xs = false then illS 1 else if hereB y.r xs = false then illS 6 else if seB y = false then illS 1
  else ⟨xs.set (posS y.r xs) y, 0⟩
noncomputable def absR (xs : List SeL) (r : ByteArray) : SoL := withR xs (newS r)
noncomputable def presR (xs : List SeL) (r : ByteArray) (p : Int) (s : ByteArray) : SoL := if 20000 < s.size then illS 2 else withR xs ⟨r, true, p, s⟩
def anyS (xs : List SeL) : Bool := xs.any (fun x => x.o)
noncomputable def anyR (xs : List SeL) : Bool := okB xs && anyS xs
end Go.Proofs.Ytkdljhmenejckaa
