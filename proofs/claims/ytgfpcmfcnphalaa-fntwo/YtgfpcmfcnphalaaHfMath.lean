/- Subscription halves as records of numbers. -/
import Derived.Test.YtgfpcmfcnphalaaChecked
import Derived.Test.YtgfpcmfcnphalaaRowsC
namespace Go.Proofs.Ytgfpcmfcnphalaa
set_option linter.unusedSimpArgs false
set_option linter.unusedVariables false
open Go.RowKit

/-- A half: next, out, to, in, from. -/
structure HfL where
  n : Int
  o : Int
  t : Int
  i : Int
  f : Int
/-- What is sent: kind and number. -/
structure SbL where
  k : Int
  n : Int
def sbC (x : SbL) : List Value := [.int .i64 x.k, .int .i64 x.n]
theorem sbC_len (x : SbL) : (sbC x).length = 2 := rfl
theorem sbC_one (x : SbL) : ∀ u ∈ sbC x, u.oneCell' = true := by
  intro u hu
  simp [sbC] at hu
  rcases hu with rfl | rfl <;> rfl
def hfC (h : HfL) : List Value := [.int .i64 h.n, .int .i64 h.o, .int .i64 h.t, .int .i64 h.i, .int .i64 h.f]
/-- The numbers are int64s. -/
def HfL.wf (h : HfL) : Prop := (Lit.int .i64 h.n).wf = true ∧ (Lit.int .i64 h.o).wf = true ∧ (Lit.int .i64 h.t).wf = true ∧ (Lit.int .i64 h.i).wf = true ∧ (Lit.int .i64 h.f).wf = true
/-- The half is valid. -/
def HfL.ok (h : HfL) : Prop := 0 ≤ h.n ∧ h.n ≤ 1000000000 ∧ 0 ≤ h.o ∧ h.o ≤ h.n ∧ 0 ≤ h.t ∧ h.t ≤ h.n ∧ (h.o = 0 ∨ h.t = 0) ∧ 0 ≤ h.i ∧ h.i ≤ 1000000000 ∧ 0 ≤ h.f ∧ h.f ≤ 1000000000 ∧ (h.i = 0 ∨ h.f = 0)
instance (h : HfL) : Decidable h.ok := by unfold HfL.ok; infer_instance
/-- An answer: the half, what is sent, the code. -/
structure HoL where
  h : HfL
  s : List SbL
  c : Int
def hf0 : HfL := ⟨0, 0, 0, 0, 0⟩
def illH (c : Int) : HoL := ⟨hf0, [], c⟩
def sentH (h : HfL) (k n : Int) : HoL := ⟨h, [⟨k, n⟩], 0⟩
/-- The user's action on a valid half. -/
def sayH (h : HfL) (k : Int) : HoL :=
  if k = 1 then (if h.o ≠ 0 ∨ h.t ≠ 0 then illH 10 else if 1000000000 ≤ h.n then illH 9 else sentH ⟨h.n + 1, h.n + 1, h.t, h.i, h.f⟩ 1 (h.n + 1))
  else if k = 2 then (if h.i = 0 then illH 10 else sentH ⟨h.n, h.o, h.t, 0, h.i⟩ 2 h.i)
  else if k = 3 then (if h.o + h.t = 0 then illH 10 else sentH ⟨h.n, 0, 0, h.i, h.f⟩ 3 (h.o + h.t))
  else (if h.i + h.f = 0 then illH 10 else sentH ⟨h.n, h.o, h.t, 0, 0⟩ 4 (h.i + h.f))
def sayR (h : HfL) (k : Int) : HoL := if h.ok ∧ 1 ≤ k ∧ k ≤ 4 then sayH h k else illH 1
/-- A half that hears of something valid. -/
def hearH (h : HfL) (x : SbL) : HfL :=
  if x.k = 1 then ⟨h.n, h.o, h.t, x.n, 0⟩
  else if x.k = 2 then (if h.o = x.n then ⟨h.n, 0, x.n, h.i, h.f⟩ else h)
  else if x.k = 3 then ⟨h.n, h.o, h.t, if h.i = x.n then 0 else h.i, if h.f = x.n then 0 else h.f⟩
  else ⟨h.n, if h.o = x.n then 0 else h.o, if h.t = x.n then 0 else h.t, h.i, h.f⟩
def hearR (h : HfL) (x : SbL) : HoL := if h.ok ∧ 1 ≤ x.k ∧ x.k ≤ 4 ∧ 1 ≤ x.n ∧ x.n ≤ 1000000000 then ⟨hearH h x, [], 0⟩ else illH 1
def dropS (h : HfL) : List SbL := (if h.o + h.t = 0 then [] else [⟨3, h.o + h.t⟩]) ++ (if h.i + h.f = 0 then [] else [⟨4, h.i + h.f⟩])
def dropR (h : HfL) : HoL := if h.ok then ⟨⟨h.n, 0, 0, 0, 0⟩, dropS h, 0⟩ else illH 1
end Go.Proofs.Ytgfpcmfcnphalaa
