/- Letters in lower case, and the place of a byte: impl.lowered, spec.l03Lower, spec.l03At. -/
import Derived.Test.YtkjkfcljejjpbaaJidCells
import Derived.Test.YtkjkfcljejjpbaaJidReadMath
import Derived.Test.YtkjkfcljejjpbaaOwnBytes
namespace Go.Proofs.Ytkjkfcljejjpbaa
set_option linter.unusedSimpArgs false
set_option linter.unusedVariables false
open Go.RowKit

/-- Block g holds the bytes l, and may be written. -/
def BAt (w : World) (g cap : Nat) (l : List UInt8) : Prop := l.length ≤ cap ∧ g < w.heap.size ∧ (∀ j (h : j < l.length), w.cell? ⟨g, j, none⟩ = some (byteV l[j])) ∧
  ∀ j, j < cap → (w.cell? ⟨g, j, none⟩).isSome = true ∧ w.frozen? ⟨g, j, none⟩ = false
theorem BAt.put {w : World} {g cap : Nat} {l : List UInt8} (h : BAt w g cap l) {i : Nat} (hi : i < l.length) (b : UInt8) : BAt (w.setCell ⟨g, i, none⟩ (byteV b)) g cap (l.set i b) := by
  obtain ⟨h1, h2, h3, h4⟩ := h
  have hc : ∀ j, j < cap → (w.setCell ⟨g, i, none⟩ (byteV b)).cell? ⟨g, j, none⟩ = if j = i then some (byteV b) else w.cell? ⟨g, j, none⟩ := by
    intro j hj
    by_cases e : j = i
    · subst e
      rw [if_pos rfl]
      exact World.cell?_setCell_same w ⟨g, j, none⟩ _ (h3 j hi)
    · rw [if_neg e]
      exact World.cell?_setCell_other w ⟨g, i, none⟩ ⟨g, j, none⟩ _ (fun h => by simp at h <;> exact e h)
  refine ⟨by simpa using h1, by simpa [World.setCell] using h2, fun j hj => ?_, fun j hj => ⟨?_, ?_⟩⟩
  · have hj' : j < l.length := by simpa using hj
    rw [hc j (by omega)]
    by_cases e : j = i
    · subst e
      rw [if_pos rfl]
      simp
    · rw [if_neg e, h3 j hj', List.getElem_set_ne (Ne.symm e)]
  · rw [hc j hj]
    split
    · rfl
    · exact (h4 j hj).1
  · rw [World.frozen?_setCell]
    exact (h4 j hj).2
theorem BAt.str {w : World} {g cap : Nat} {l : List UInt8} (h : BAt w g cap l) : (convert 22 9 (.slice (some ⟨g, 0, none⟩) l.length cap)).run Try.prog w = .ok (.string (strOf l)) w :=
  run_convert_bytes_back w 22 9 5 ⟨g, 0, none⟩ cap l Try.underlying22 Try.underlying5 Try.underlying9 (fun j hj => by
    rw [show (⟨g, 0, none⟩ : Addr).add j = ⟨g, j, none⟩ by unfold Addr.add; split <;> simp_all]
    exact h.2.2.1 j hj)
/-- The first k bytes in lower case. -/
def lowTo (k : Nat) (T : List UInt8) : List UInt8 := (T.take k).map lowC ++ T.drop k
theorem lowTo_len (k : Nat) (T : List UInt8) : (lowTo k T).length = T.length := by
  unfold lowTo
  simp
  omega
theorem lowTo_zero (T : List UInt8) : lowTo 0 T = T := by simp [lowTo]
theorem lowTo_all (T : List UInt8) : lowTo T.length T = T.map lowC := by simp [lowTo]
theorem lowTo_at (k : Nat) (T : List UInt8) (h : k < T.length) : (lowTo k T)[k]'(by rw [lowTo_len]; exact h) = T[k] := by
  unfold lowTo
  rw [List.getElem_append_right (by simp; omega)]
  simp [Nat.min_eq_left (Nat.le_of_lt h)]
theorem lowTo_succ (k : Nat) (T : List UInt8) (h : k < T.length) : lowTo (k + 1) T = (lowTo k T).set k (lowC T[k]) := by
  unfold lowTo
  rw [List.take_succ_eq_append_getElem h, List.map_append, List.append_assoc]
  rw [List.set_append_right _ _ (by simp; omega)]
  have e : k - ((T.take k).map lowC).length = 0 := by simp; omega
  rw [e, List.drop_eq_getElem_cons h, List.set_cons_zero]
  simp only [List.map_cons, List.map_nil, List.cons_append, List.nil_append]
theorem lowTo_same (k : Nat) (T : List UInt8) (h : k < T.length) (hc : lowC T[k] = T[k]) : lowTo (k + 1) T = lowTo k T := by
  rw [lowTo_succ k T h, hc]
  conv => lhs; arg 3; rw [← lowTo_at k T h]
  exact List.set_getElem_self _
theorem lowC_up {c : UInt8} (h1 : 65 ≤ (c.toNat : Int)) (h2 : (c.toNat : Int) ≤ 90) : Value.int .u8 ((c.toNat : Int) + 32) = byteV (lowC c) := by
  unfold lowC
  rw [if_pos (by omega)]
  exact byteV_ofNat (by omega) (by omega)
theorem lowC_no {c : UInt8} (h : (c.toNat : Int) < 65 ∨ 90 < (c.toNat : Int)) : lowC c = c := by
  unfold lowC
  rw [if_neg (by omega)]

theorem lowL_to (T : List UInt8) : lowL T = lowTo (Lib.cut T [47]).1.length T ∧ (Lib.cut T [47]).1.length ≤ T.length := by
  unfold lowL lowTo
  rcases cut_form T 47 with ⟨A, R, rfl, h⟩ | h
  · rw [cut_app h]
    simp
  · rw [cut_not h]
    simp
theorem lowC_up2 {c : UInt8} (h1 : 65 ≤ (c.toNat : Int)) (h2 : (c.toNat : Int) ≤ 90) : Value.int .u8 ((c.toNat : Int) - 65 + 97) = byteV (lowC c) := by
  rw [← lowC_up h1 h2, show (c.toNat : Int) - 65 + 97 = (c.toNat : Int) + 32 by omega]

end Go.Proofs.Ytkjkfcljejjpbaa
