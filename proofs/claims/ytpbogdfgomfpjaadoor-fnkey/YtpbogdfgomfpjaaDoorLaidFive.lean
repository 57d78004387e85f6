/- What the row's list says of the program's two tables and of the library's three. -/
import Derived.Test.YtpbogdfgomfpjaaDoorRows
import Derived.Test.YtpbogdfgomfpjaaDoorShaProg6
import Derived.Test.YtpbogdfgomfpjaaDoorStTextI
import Derived.ProofKit
import Derived.LaidMore
import Derived.LaidHandle
import Derived.LaidLaws
import Derived.Lib.LaidTab
import Derived.Stop.LaidErr
import Derived.OpenVars
namespace Go.Proofs.YtpbogdfgomfpjaaDoor
open Go.ChangeShapes Go.WideShapes Go.ChangeAt Go.RowKit

theorem gFirst : Tryd.prog.globalNamed "loop.example/g00387/impl.firstState" = some 4 := by kernel_rfl
theorem gKeys : Tryd.prog.globalNamed "loop.example/g00387/impl.roundKeys" = some 7 := by kernel_rfl
theorem tyFirst : (Tryd.prog.globals[4]?).map (·.type) = some 126 := by kernel_rfl
theorem tyKeys : (Tryd.prog.globals[7]?).map (·.type) = some 161 := by kernel_rfl
theorem cellsFirst : Tryd.prog.cellsOf 126 = 8 := by kernel_rfl
theorem cellsKeys : Tryd.prog.cellsOf 161 = 64 := by kernel_rfl
theorem cellsWord : Tryd.prog.cellsOf 117 = 1 := by kernel_rfl
theorem tyPow : (Tryd.prog.globals[6]?).map (·.type) = some 154 := by kernel_rfl
theorem cellsPow : Tryd.prog.cellsOf 154 = 20 := by kernel_rfl
theorem cellsU64 : Tryd.prog.cellsOf 96 = 1 := by kernel_rfl
def firstZ : List Int := shaInit.words.map wz
def keysZ : List Int := shaK.map wz
/-- The rows' list. -/
def fiveLaid : List (String × DataW Unit) := [("math/bits.deBruijn32tab", Rows.laid_math_bits_deBruijn32tab), ("math/bits.deBruijn64tab", Rows.laid_math_bits_deBruijn64tab), ("internal/strconv.uint64pow10", Rows.laid_internal_strconv_uint64pow10), ("loop.example/g00387/impl.firstState", Rows.laid_loop_example_g00387_impl_firstState), ("loop.example/g00387/impl.roundKeys", Rows.laid_loop_example_g00387_impl_roundKeys)]
theorem pow_data : (Rows.laid_internal_strconv_uint64pow10 : DataW Unit) = Lib.tabData .u64 Lib.pow10Tab := by kernel_rfl
theorem first_data : (Rows.laid_loop_example_g00387_impl_firstState : DataW Unit) = Lib.tabData .u32 firstZ := by kernel_rfl
theorem keys_data : (Rows.laid_loop_example_g00387_impl_roundKeys : DataW Unit) = Lib.tabData .u32 keysZ := by kernel_rfl
theorem tabP_of {W : World} (h : laidMetH Tryd.prog fiveLaid W) : TabP W := by
  rw [MakeChecks.laidMetH_plain _ _ _ (by kernel_rfl)] at h
  unfold fiveLaid at h
  rw [pow_data] at h
  exact Lib.tabIs_of_head gPow tyPow Tryd.underlying154 Tryd.underlying96 cellsU64 cellsPow h.tail.tail
theorem tabs_of {W : World} (h : laidMetH Tryd.prog fiveLaid W) : Tabs W := by
  rw [MakeChecks.laidMetH_plain _ _ _ (by kernel_rfl)] at h
  unfold fiveLaid at h
  rw [first_data, keys_data] at h
  have h1 := Lib.tabIs_of_head gFirst tyFirst Tryd.underlying126 Tryd.underlying117 cellsWord cellsFirst h.tail.tail.tail
  have h2 := Lib.tabIs_of_head gKeys tyKeys Tryd.underlying161 Tryd.underlying117 cellsWord cellsKeys h.tail.tail.tail.tail
  have k1 : KeysAt W := fun k hk => by
    have hl : k < shaK.length := hk
    have := Lib.TabIs.cell h2 gKeys k (by unfold keysZ; rw [List.length_map]; exact hk)
    rw [this]
    unfold keysZ
    rw [List.getD_eq_getElem?_getD, List.getElem?_map, List.getElem?_eq_getElem hl, List.getD_eq_getElem?_getD, List.getElem?_eq_getElem hl]
    rfl
  have k2 : FirstAt W := fun j v hv => by
    have hj : j < 8 := (List.getElem?_eq_some_iff.1 hv).1
    have := Lib.TabIs.cell h1 gFirst j (by unfold firstZ; rw [List.length_map]; exact hj)
    rw [Nat.zero_add, this]
    rw [cells_at shaInit hj] at hv
    rw [← hv]
    have e : j = 0 ∨ j = 1 ∨ j = 2 ∨ j = 3 ∨ j = 4 ∨ j = 5 ∨ j = 6 ∨ j = 7 := by omega
    rcases e with rfl | rfl | rfl | rfl | rfl | rfl | rfl | rfl <;> rfl
  refine ⟨k1, k2, ?_⟩
  have a1 := lt_cell (k1 0 (by omega))
  have a2 := lt_cell (Lib.TabIs.cell h1 gFirst 0 (by unfold firstZ; rw [List.length_map]; decide))
  omega
def litC : DataW Unit → Value
  | .lit (.int k z) => .int k z
  | _ => undef
def aggC : DataW Unit → Array Value
  | .agg l => (l.map litC).toArray
  | _ => #[]
def layCells (c : Array Value) : Obj → Obj
  | .cells _ t frozen => .cells c t frozen
  | o => o
/-- A world in which the tables lie as their initialisers lay them. -/
noncomputable def fiveWorld (os : Os) : World :=
  { World.holding Tryd.prog os ⟨#[], #[], []⟩ with heap := (((((World.holding Tryd.prog os ⟨#[], #[], []⟩).heap.modify 6 (layCells (aggC Rows.laid_internal_strconv_uint64pow10))).modify 8 (layCells (aggC Rows.laid_math_bits_deBruijn32tab))).modify 9 (layCells (aggC Rows.laid_math_bits_deBruijn64tab))).modify 4 (layCells (aggC Rows.laid_loop_example_g00387_impl_firstState))).modify 7 (layCells (aggC Rows.laid_loop_example_g00387_impl_roundKeys)) }
theorem five_met (os : Os) (args : Array Value) : laidMetH Tryd.prog fiveLaid ((fiveWorld os).forCall (fun _ _ => 0) ⟨#[], args, []⟩).memory := by
  rw [MakeChecks.laidMetH_plain _ _ _ (by kernel_rfl)]
  exact laidMet_of_run' 8 (by kernel_rfl) (by kernel_rfl)
end Go.Proofs.YtpbogdfgomfpjaaDoor
