/- What impl.JidRead answers. -/
import Derived.Test.YtkjkfcljejjpbaaJidRead
namespace Go.Proofs.Ytkjkfcljejjpbaa
set_option linter.unusedSimpArgs false
set_option linter.unusedVariables false
open Go.RowKit

def jo (l d r : ByteArray) (c : Int) : Value := .agg #[.string l, .string d, .string r, .int .i64 c]
noncomputable def goodR (T : List UInt8) : Bool := shapeL T && jidB (strOf (readL T).1) (strOf (readL T).2.1) (strOf (readL T).2.2)
/-- What JidRead answers. -/
noncomputable def jidReadV (s : ByteArray) : Value :=
  if 20000 < s.size then jo ⟨#[]⟩ ⟨#[]⟩ ⟨#[]⟩ 2 else if goodR s.data.toList = true then jo (strOf (readL s.data.toList).1) (strOf (readL s.data.toList).2.1) (strOf (readL s.data.toList).2.2) 0 else jo ⟨#[]⟩ ⟨#[]⟩ ⟨#[]⟩ 3
theorem arr_four {w : World} {g t : Nat} {a b c d : Value} (h : Arr w g t [a, b, c, d]) : (w.cell? ⟨g, 0, none⟩ = some a ∧ w.cell? ⟨g, 1, none⟩ = some b ∧ w.cell? ⟨g, 2, none⟩ = some c ∧ w.cell? ⟨g, 3, none⟩ = some d) ∧ w.frozen? ⟨g, 0, none⟩ = false ∧ w.frozen? ⟨g, 1, none⟩ = false ∧ w.frozen? ⟨g, 2, none⟩ = false ∧ w.frozen? ⟨g, 3, none⟩ = false :=
  ⟨⟨h.cell 0, h.cell 1, h.cell 2, h.cell 3⟩, h.free 0, h.free 1, h.free 2, h.free 3⟩
theorem below_four {B g : Nat} {w w1 : World} (h : Below B w w1) (hg : B ≤ g) (x y z u : Value) : Below B w ((((w1.setCell ⟨g, 0, none⟩ x).setCell ⟨g, 1, none⟩ y).setCell ⟨g, 2, none⟩ z).setCell ⟨g, 3, none⟩ u) :=
  (below_three h hg x y z).setCell (p := ⟨g, 3, none⟩) hg u
theorem jidT_text (p : List UInt8 × List UInt8 × List UInt8) : jidT (strOf p.1) (strOf p.2.1) (strOf p.2.2) = strOf (textL p) := by
  unfold jidT textL
  rw [flat_five]
  have e : ∀ (m : ByteArray) (c : UInt8) (x : List UInt8), m = ⟨#[c]⟩ → (markOf m (strOf x)).data.toList = if x = [] then [] else [c] := by
    intro m c x hm
    subst hm
    unfold markOf
    rw [strOf_size]
    cases x with
    | nil => rfl
    | cons y x => rfl
  rw [e atS 64 _ rfl, e slS 47 _ rfl, strOf_data, strOf_data, strOf_data]
theorem text_same (T : List UInt8) : ((jidT (strOf (readL T).1) (strOf (readL T).2.1) (strOf (readL T).2.2)).toList == (strOf (lowL T)).toList) = shapeL T := by
  rw [jidT_text, ByteArray.toList_eq, ByteArray.toList_eq, strOf_data, strOf_data, Bool.eq_iff_iff, beq_iff_eq, ← parts_read, text_shape]

end Go.Proofs.Ytkjkfcljejjpbaa
