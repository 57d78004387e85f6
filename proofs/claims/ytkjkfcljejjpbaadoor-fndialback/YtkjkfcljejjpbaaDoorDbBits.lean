/- The small functions of the laws on dialbacks: sizes, copies, comparison. -/
import Derived.Test.YtkjkfcljejjpbaaDoorDbFrame
import Derived.Test.YtkjkfcljejjpbaaDoorArPeer
import Derived.Test.YtkjkfcljejjpbaaDoorEqPeer
import Derived.Test.YtkjkfcljejjpbaaDoorJidCells
import Derived.Laws.Rows
namespace Go.Proofs.YtkjkfcljejjpbaaDoor
set_option linter.unusedSimpArgs false
set_option linter.unusedVariables false
open Go.RowKit

theorem box3 {w w1 : World} {a b c : Value} {t : Nat} (h : Below (w.alloc (.cells #[a, b, c] t)).heap.size (w.alloc (.cells #[a, b, c] t)) w1) : Arr w1 w.heap.size t [a, b, c] ∧ Below w.heap.size w w1 :=
  ⟨(h.block w.heap.size (by simp)).trans (Arr.fresh w t [a, b, c]), ((Below.refl _ _).alloc (Nat.le_refl _) _).trans (h.mono (by simp))⟩
theorem arr_beside {w : World} {b t : Nat} {cs : List Value} (h : Arr w b t cs) (g i : Nat) (u : Value) (hne : b ≠ g) : Arr (w.setCell ⟨g, i, none⟩ u) b t cs := (heap_setCell_other w ⟨g, i, none⟩ b u hne).trans h
theorem three_box {w w1 : World} {A : Obj} {cs ds : List Value} {t : Nat} (h : Below (((w.alloc A).alloc (.cells cs.toArray t)).alloc (.cells ds.toArray t)).heap.size (((w.alloc A).alloc (.cells cs.toArray t)).alloc (.cells ds.toArray t)) w1) :
    Arr w1 (w.heap.size + 1) t cs ∧ Arr w1 (w.heap.size + 1 + 1) t ds ∧ Below w.heap.size w w1 := by
  have h1 := Arr.fresh (w.alloc A) t cs
  have h2 := Arr.fresh ((w.alloc A).alloc (.cells cs.toArray t)) t ds
  rw [World.size_alloc] at h1
  rw [World.size_alloc, World.size_alloc] at h2
  exact ⟨(h.block _ (by simp)).trans (arr_alloc h1 _), (h.block _ (by simp)).trans h2, ((((Below.refl _ _).alloc (Nat.le_refl _) _).alloc (by simp) _).alloc (by simp; omega) _).trans (h.mono (by simp; omega))⟩
theorem sz_wf {ps : List PrL} (h : ∀ p ∈ ps, p.wf) : ∀ p ∈ ps, Sz_pr p := fun p hp => by
  obtain ⟨h1, _, _, h2⟩ := h p hp
  unfold maxLen at h1 h2
  exact ⟨by omega, by omega⟩
end Go.Proofs.YtkjkfcljejjpbaaDoor
