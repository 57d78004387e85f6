/- The map of escaped forms that impl.escapedForms makes, and what is found in it. -/
import Derived.Test.YtpjmcpfmnlfmdaaChecked
import Derived.Test.YtpjmcpfmnlfmdaaMath
import Derived.Maps.OwnSet
import Derived.Maps.RangeWalk
import Derived.Maps.Ext
import Derived.WalkKit
import Derived.ProofKit
import Derived.Deep.DeepFit
namespace Go.Proofs.Ytpjmcpfmnlfmdaa
set_option linter.unusedSimpArgs false
set_option linter.unusedVariables false
open Go.RowKit Go.Maps

/-- How a form reads: a struct of one string. -/
def formElem (v : Value) : Option (DataW Unit × List MemPlace) :=
  match v with
  | .agg cs => match cs.toList with
    | [.string s] => some (.agg [.lit (.string s.data.toList)], [])
    | _ => none
  | _ => none
def formD (l : List UInt8) : DataW Unit := .agg [.lit (.string l)]
theorem formElem_mk (s : ByteArray) : formElem (.agg #[.string s]) = some (formD s.data.toList, []) := rfl
theorem formElem_inv {v : Value} {z : DataW Unit × List MemPlace} (h : formElem v = some z) : ∃ s, v = .agg #[.string s] ∧ z = (formD s.data.toList, []) := by
  unfold formElem at h
  split at h
  · rename_i cs
    split at h
    · rename_i s hs
      obtain ⟨cs⟩ := cs
      simp at hs
      subst hs
      simp at h
      exact ⟨s, rfl, h.symm⟩
    · cases h
  · cases h
/-- The markup characters. -/
def markB (r : Int) : Bool := decide (r = 38 ∨ r = 60 ∨ r = 62 ∨ r = 39 ∨ r = 34)
/-- Their forms. -/
def formL (r : Int) : List UInt8 :=
  if r = 38 then [38, 97, 109, 112, 59] else if r = 60 then [38, 108, 116, 59] else if r = 62 then [38, 103, 116, 59] else if r = 39 then [38, 97, 112, 111, 115, 59] else if r = 34 then [38, 113, 117, 111, 116, 59] else []
def formsD : DataW Unit := .map [(.int .i32 34, formD [38, 113, 117, 111, 116, 59]), (.int .i32 38, formD [38, 97, 109, 112, 59]), (.int .i32 39, formD [38, 97, 112, 111, 115, 59]), (.int .i32 60, formD [38, 108, 116, 59]), (.int .i32 62, formD [38, 103, 116, 59])]
theorem forms_put : (((((DataW.map []).put (.int .i32 38) (formD [38, 97, 109, 112, 59])).put (.int .i32 60) (formD [38, 108, 116, 59])).put (.int .i32 62) (formD [38, 103, 116, 59])).put (.int .i32 39) (formD [38, 97, 112, 111, 115, 59])).put (.int .i32 34) (formD [38, 113, 117, 111, 116, 59]) = formsD := by
  kernel_rfl
theorem same_i32 (a b : Int) : (Lit.int .i32 a).sameKey (.int .i32 b) = decide (a = b) := by
  simp [Lit.sameKey]
theorem forms_at (r : Int) (zd : DataW Unit) : formsD.atKey (.int .i32 r) zd = if markB r then formD (formL r) else zd := by
  unfold formsD DataW.atKey
  simp only [List.find?_cons, List.find?_nil, same_i32]
  by_cases h1 : r = 34
  · subst h1; rfl
  · by_cases h2 : r = 38
    · subst h2; rfl
    · by_cases h3 : r = 39
      · subst h3; rfl
      · by_cases h4 : r = 60
        · subst h4; rfl
        · by_cases h5 : r = 62
          · subst h5; rfl
          · have e : markB r = false := by unfold markB; simp; omega
            rw [e]
            have f : ∀ k : Int, r ≠ k → decide (k = r) = false := fun k hk => by simp; omega
            rw [f 34 h1, f 38 h2, f 39 h3, f 60 h4, f 62 h5]
            rfl
theorem forms_has (r : Int) : Maps.has formsD (.int .i32 r) = markB r := by
  cases h : markB r
  · exact Maps.has_false_of_atKey fun z => by rw [forms_at, h]; rfl
  · exact Maps.has_true_of_atKey (y := formD (formL r)) fun z => by rw [forms_at, h]; rfl

theorem law_i32 : Keyed Try.prog 21 := int_keyed Try.underlying21
/-- An insertion of a literal is a store. -/
theorem wpList_insert_own {H : Type} {P : Program} (w : World) {ops : Array Oper} {rest : List Oper} {o : Oper} {a : Act} {Q : Exit → Act → World → Prop}
    (hg : o.guard = none) (m x v : Operand) (t : TypeId) (hop : o.op = Op.insert t m x v)
    (k e : TypeId) (K : Keyed P k) (ht : P.underlying t = some (.map k e)) (R : Value → Option (DataW H × List MemPlace)) (b n : Nat) (D : DataW H)
    (hm : a.eval m = .map (some b)) (hown : w.ownsMap P k R b n D) (hn : n < maxLen) (key val : Value) (kl : Lit) (hx : a.eval x = key) (hv : a.eval v = val) (hkey : keyOf P k key = some kl)
    (d : DataW H) (ps : List MemPlace) (hval : R val = some (d, ps))
    (hK : ∀ w', w'.ownsMap P k R b (n + 1) (D.put kl d) → w.grownBy w' (some b) → wpList P ops Q rest (a.put o.dst undef) w') :
    wpList P ops Q (o :: rest) a w := by
  refine wpList_plain hg fun K' hK' => ?_
  obtain ⟨w', hrun, r1, r2⟩ := hown.update K ht hn hkey hval
  unfold Oper.wp
  simp [execOp, hop, hm, hx, hv, hrun, Result.andThen]
  exact hK' _ _ (hK w' r1 r2)
end Go.Proofs.Ytpjmcpfmnlfmdaa
