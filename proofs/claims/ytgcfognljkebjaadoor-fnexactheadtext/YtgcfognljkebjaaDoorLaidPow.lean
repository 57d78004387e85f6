/- What the row's list says of the library's three tables. -/
import Derived.Test.YtgcfognljkebjaaDoorRows
import Derived.Test.YtgcfognljkebjaaDoorStTextI
import Derived.ProofKit
import Derived.LaidMore
import Derived.LaidHandle
import Derived.LaidLaws
import Derived.Lib.LaidTab
import Derived.Stop.LaidErr
namespace Go.Proofs.YtgcfognljkebjaaDoor
open Go.ChangeShapes Go.WideShapes Go.ChangeAt Go.RowKit

theorem tyPow : (Tryd.prog.globals[0]?).map (·.type) = some 52 := by kernel_rfl
theorem cellsPow : Tryd.prog.cellsOf 52 = 20 := by kernel_rfl
theorem cellsU64 : Tryd.prog.cellsOf 43 = 1 := by kernel_rfl
/-- The row's list. -/
def powLaid : List (String × DataW Unit) := [("math/bits.deBruijn32tab", Rows.laid_math_bits_deBruijn32tab), ("math/bits.deBruijn64tab", Rows.laid_math_bits_deBruijn64tab), ("internal/strconv.uint64pow10", Rows.laid_internal_strconv_uint64pow10)]
theorem pow_data : (Rows.laid_internal_strconv_uint64pow10 : DataW Unit) = Lib.tabData .u64 Lib.pow10Tab := by kernel_rfl
theorem tabP_of {W : World} (h : laidMetH Tryd.prog powLaid W) : TabP W := by
  rw [MakeChecks.laidMetH_plain _ _ _ (by kernel_rfl)] at h
  unfold powLaid at h
  rw [pow_data] at h
  exact Lib.tabIs_of_head gPow tyPow Tryd.underlying52 Tryd.underlying43 cellsU64 cellsPow h.tail.tail
def litC : DataW Unit → Value
  | .lit (.int k z) => .int k z
  | _ => undef
def aggC : DataW Unit → Array Value
  | .agg l => (l.map litC).toArray
  | _ => #[]
def layCells (c : Array Value) : Obj → Obj
  | .cells _ t frozen => .cells c t frozen
  | o => o
/-- A world in which the tables lie as their initialisers lay them. -/
noncomputable def powWorld (os : Os) : World :=
  { World.holding Tryd.prog os ⟨#[], #[], []⟩ with heap := (((World.holding Tryd.prog os ⟨#[], #[], []⟩).heap.modify 0 (layCells (aggC Rows.laid_internal_strconv_uint64pow10))).modify 2 (layCells (aggC Rows.laid_math_bits_deBruijn32tab))).modify 3 (layCells (aggC Rows.laid_math_bits_deBruijn64tab)) }
theorem pow_met (os : Os) (args : Array Value) : laidMetH Tryd.prog powLaid ((powWorld os).forCall (fun _ _ => 0) ⟨#[], args, []⟩).memory := by
  rw [MakeChecks.laidMetH_plain _ _ _ (by kernel_rfl)]
  exact laidMet_of_run' 8 (by kernel_rfl) (by kernel_rfl)
end Go.Proofs.YtgcfognljkebjaaDoor
