/- What impl.joined answers: the concatenation of its parts. -/
import Derived.Test.YtofnoneolfmbcaaChecked
import Derived.Test.YtofnoneolfmbcaaMath
import Derived.WalkKit
import Derived.ProofKit
import Derived.OpenShut
import Derived.Lib.Hide
import Derived.Lib.BufferWrite
import Derived.Laws.CopyOwn
namespace Go.Proofs.Ytofnoneolfmbcaa
set_option linter.unusedSimpArgs false
set_option linter.unusedVariables false
open Go.RowKit

/-- The bytes of some strings, one behind the other. -/
def flat (ss : List ByteArray) : List UInt8 := ss.flatMap (·.data.toList)
theorem flat_succ (ss : List ByteArray) (k : Nat) (h : k < ss.length) : flat (ss.take (k + 1)) = flat (ss.take k) ++ ss[k].data.toList := by
  unfold flat
  rw [List.take_succ_eq_append_getElem h, List.flatMap_append]
  simp only [List.flatMap_cons, List.flatMap_nil, List.append_nil]
theorem flat_take_le (ss : List ByteArray) (k : Nat) : (flat (ss.take k)).length ≤ (flat ss).length := by
  have e : flat ss = flat (ss.take k) ++ flat (ss.drop k) := by
    unfold flat
    rw [← List.flatMap_append, List.take_append_drop]
  rw [e]; simp
theorem size_data (s : ByteArray) : s.data.toList.length = s.size := by rw [Array.length_toList]; rfl
theorem info_u8j : (Try.prog.info? 5).map (fun i => (i.zero, i.size, i.bytes)) = some (some (.int .u8 0), 1, 1) := by kernel_rfl
theorem size_u8j : (Try.prog.info? 5).map (·.size) = some 1 := by kernel_rfl

theorem Heads.more {cs : List Value} {l m : List UInt8} (h : Heads cs l) : Heads (cs.take l.length ++ m.map byteV ++ cs.drop (l.length + m.length)) (l ++ m) := by
  unfold Heads at h ⊢
  rw [h, ← List.map_append]
  rw [show (l ++ m).length = ((l ++ m).map byteV).length by simp]
  exact List.take_left

theorem Arr.row {w : World} {b t : Nat} {cs : List Value} (h : Arr w b t cs) (l : List Value) : Arr (w.setRow b l.toArray) b t l := setRow_heap w b _ _ t _ h

theorem flat_one (a : ByteArray) : flat [a] = a.data.toList := by simp [flat]
theorem joined_one (a : ByteArray) : strOf (flat [a]) = a := by rw [flat_one]; rfl
theorem one_cells (w : World) (a : ByteArray) (t : Nat) : ∀ j (h : j < [a].length), (w.alloc (.cells #[.string a] t)).cell? ⟨w.heap.size, j, none⟩ = some (.string [a][j]) := by
  intro j h
  rw [(Arr.fresh w t [.string a]).cell]
  match j, h with
  | 0, _ => rfl

end Go.Proofs.Ytofnoneolfmbcaa
