/- What the row's list says of the library's tables and errors. -/
import Derived.Test.YtlobaopbehhhiaaGreatDoorRows
import Derived.Test.YtlobaopbehhhiaaGreatDoorSrImp1
import Derived.ProofKit
import Derived.LaidMore
import Derived.LaidHandle
import Derived.LaidLaws
import Derived.Lib.LaidTab
import Derived.Stop.LaidErr
namespace Go.Proofs.YtlobaopbehhhiaaGreatDoor
open Go.ChangeShapes Go.WideShapes Go.ChangeAt Go.RowKit

theorem tyPow : (Tryz.prog.globals[1]?).map (·.type) = some 176 := by kernel_rfl
theorem cellsPow : Tryz.prog.cellsOf 176 = 20 := by kernel_rfl
theorem cellsU64 : Tryz.prog.cellsOf 93 = 1 := by kernel_rfl
/-- The row's list. -/
def sevLaid : List (String × DataW Unit) := [("math/bits.deBruijn32tab", Rows.laid_math_bits_deBruijn32tab), ("math/bits.deBruijn64tab", Rows.laid_math_bits_deBruijn64tab), ("internal/strconv.uint64pow10", Rows.laid_internal_strconv_uint64pow10), ("unicode/utf8.acceptRanges", Rows.laid_unicode_utf8_acceptRanges), ("strconv.ErrRange", Rows.laid_strconv_ErrRange), ("strconv.ErrSyntax", Rows.laid_strconv_ErrSyntax), ("unicode/utf8.first", Rows.laid_unicode_utf8_first)]
theorem pow_data : (Rows.laid_internal_strconv_uint64pow10 : DataW Unit) = Lib.tabData .u64 Lib.pow10Tab := by kernel_rfl
theorem sev_plain {W : World} (h : laidMetH Tryz.prog sevLaid W) : laidMet Tryz.prog sevLaid W := by
  rw [MakeChecks.laidMetH_plain _ _ _ (by kernel_rfl)] at h
  exact h
theorem tabP_of {W : World} (h : laidMetH Tryz.prog sevLaid W) : TabP W := by
  have h := sev_plain h
  unfold sevLaid at h
  rw [pow_data] at h
  exact Lib.tabIs_of_head gPow tyPow Tryz.underlying176 Tryz.underlying93 cellsU64 cellsPow h.tail.tail
theorem gSyn : Tryz.prog.globalNamed "strconv.ErrSyntax" = some 2 := by kernel_rfl
theorem gRan : Tryz.prog.globalNamed "strconv.ErrRange" = some 3 := by kernel_rfl
theorem tSyn : (Tryz.prog.globals[2]?).map (·.type) = some 145 := by kernel_rfl
theorem tRan : (Tryz.prog.globals[3]?).map (·.type) = some 145 := by kernel_rfl
theorem cellsEs : Tryz.prog.cellsOf 205 = 1 := by kernel_rfl
theorem cellsS9 : Tryz.prog.cellsOf 9 = 1 := by kernel_rfl
theorem starE : "*" ++ "errors.errorString" = "*errors.errorString" := by decide
theorem rowE (u : TypeId) (h : Tryz.prog.typeName? 3 u = some "*errors.errorString") : u = 203 :=
  typeName_ptr_named (nm := "errors.errorString") (by rw [starE]; kernel_rfl) (by kernel_rfl) (by decide) u (by rw [starE]; exact h)
theorem errV_of {W : World} (h : laidMetH Tryz.prog sevLaid W) : ErrV W := by
  have h := sev_plain h
  unfold sevLaid Rows.laid_strconv_ErrRange Rows.laid_strconv_ErrSyntax at h
  obtain ⟨a0, s0, hv0, _⟩ := laid_sentinel h.tail.tail.tail.tail gRan tRan Tryz.underlying145 rowE Tryz.underlying203 Tryz.underlying205 rfl rfl Tryz.underlying9 cellsEs cellsS9
  obtain ⟨a1, s1, hv1, _⟩ := laid_sentinel h.tail.tail.tail.tail.tail gSyn tSyn Tryz.underlying145 rowE Tryz.underlying203 Tryz.underlying205 rfl rfl Tryz.underlying9 cellsEs cellsS9
  have c0 : W.cell? ⟨3, 0, none⟩ = some (.iface 203 (.pointer (some a0))) := by simpa using World.var?_cell gRan hv0 0
  have c1 : W.cell? ⟨2, 0, none⟩ = some (.iface 203 (.pointer (some a1))) := by simpa using World.var?_cell gSyn hv1 0
  exact ⟨⟨_, c1, .inr ⟨_, _, rfl⟩⟩, _, c0, .inr ⟨_, _, rfl⟩⟩
def litC : DataW Unit → Value
  | .lit (.int k z) => .int k z
  | _ => undef
def aggC : DataW Unit → Array Value
  | .agg l => (l.map litC).toArray
  | _ => #[]
def partC : DataW Unit → List Value
  | .agg l => l.map litC
  | d => [litC d]
def aggD : DataW Unit → Array Value
  | .agg l => (l.flatMap partC).toArray
  | _ => #[]
def layCells (c : Array Value) : Obj → Obj
  | .cells _ t frozen => .cells c t frozen
  | o => o
/-- So many blocks has the settled world. -/
noncomputable def lowB : Nat := (World.holding Tryz.prog default ⟨#[], #[], []⟩).heap.size
/-- A world in which the tables and the errors lie as their initialisers lay them. -/
noncomputable def sevWorld (os : Os) : World :=
  let w0 := World.holding Tryz.prog os ⟨#[.cells #[.string ⟨#[118, 97, 108, 117, 101, 32, 111, 117, 116, 32, 111, 102, 32, 114, 97, 110, 103, 101]⟩] 205, .cells #[.string ⟨#[105, 110, 118, 97, 108, 105, 100, 32, 115, 121, 110, 116, 97, 120]⟩] 205], #[], []⟩
  { w0 with heap := ((((((w0.heap.modify 1 (layCells (aggC Rows.laid_internal_strconv_uint64pow10))).modify 6 (layCells (aggC Rows.laid_math_bits_deBruijn32tab))).modify 7 (layCells (aggC Rows.laid_math_bits_deBruijn64tab))).modify 5 (layCells (aggD Rows.laid_unicode_utf8_acceptRanges))).modify 4 (layCells (aggC Rows.laid_unicode_utf8_first))).modify 3 (layCells #[.iface 203 (.pointer (some ⟨lowB, 0, none⟩))])).modify 2 (layCells #[.iface 203 (.pointer (some ⟨lowB + 1, 0, none⟩))]) }
set_option maxRecDepth 100000 in
theorem sev_met (os : Os) (args : Array Value) : laidMetH Tryz.prog sevLaid ((sevWorld os).forCall (fun _ _ => 0) ⟨#[], args, []⟩).memory := by
  rw [MakeChecks.laidMetH_plain _ _ _ (by kernel_rfl)]
  exact laidMet_of_run' 8 (by kernel_rfl) (by kernel_rfl)
end Go.Proofs.YtlobaopbehhhiaaGreatDoor
