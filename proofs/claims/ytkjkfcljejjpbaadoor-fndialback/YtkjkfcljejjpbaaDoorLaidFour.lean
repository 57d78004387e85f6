/- What the row's list says of the program's four errors. -/
import Derived.Test.YtkjkfcljejjpbaaDoorRows
import Derived.Test.YtkjkfcljejjpbaaDoorDbIs
import Derived.ProofKit
import Derived.LaidMore
import Derived.LaidHandle
import Derived.LaidLaws
import Derived.Lib.LaidTab
import Derived.Stop.LaidErr
import Derived.Stop.LaidTwo
import Derived.OpenVars
namespace Go.Proofs.YtkjkfcljejjpbaaDoor
open Go.ChangeShapes Go.WideShapes Go.ChangeAt Go.RowKit

/-- The rows' list. -/
def fourLaid : List (String × DataW Unit) := [("loop.example/g00387/impl.errNotValid", Rows.laid_loop_example_g00387_impl_errNotValid), ("loop.example/g00387/impl.errNoPeer", Rows.laid_loop_example_g00387_impl_errNoPeer), ("loop.example/g00387/impl.errNoRoom", Rows.laid_loop_example_g00387_impl_errNoRoom), ("loop.example/g00387/impl.errWrongState", Rows.laid_loop_example_g00387_impl_errWrongState)]
theorem gE0 : Tryd.prog.globalNamed "loop.example/g00387/impl.errNotValid" = some 0 := by kernel_rfl
theorem gE1 : Tryd.prog.globalNamed "loop.example/g00387/impl.errNoPeer" = some 3 := by kernel_rfl
theorem gE2 : Tryd.prog.globalNamed "loop.example/g00387/impl.errNoRoom" = some 2 := by kernel_rfl
theorem gE3 : Tryd.prog.globalNamed "loop.example/g00387/impl.errWrongState" = some 1 := by kernel_rfl
theorem tE0 : (Tryd.prog.globals[0]?).map (·.type) = some 51 := by kernel_rfl
theorem tE1 : (Tryd.prog.globals[3]?).map (·.type) = some 51 := by kernel_rfl
theorem tE2 : (Tryd.prog.globals[2]?).map (·.type) = some 51 := by kernel_rfl
theorem tE3 : (Tryd.prog.globals[1]?).map (·.type) = some 51 := by kernel_rfl
theorem cellsEs : Tryd.prog.cellsOf 128 = 1 := by kernel_rfl
theorem cellsS9 : Tryd.prog.cellsOf 9 = 1 := by kernel_rfl
theorem starE : "*" ++ "errors.errorString" = "*errors.errorString" := by decide
theorem rowE (u : TypeId) (h : Tryd.prog.typeName? 3 u = some "*errors.errorString") : u = 102 :=
  typeName_ptr_named (nm := "errors.errorString") (by rw [starE]; kernel_rfl) (by kernel_rfl) (by decide) u (by rw [starE]; exact h)
theorem addr_ne {W : World} {a b : Addr} {s t : ByteArray} {l m : List UInt8} (ha : W.cell? a = some (.string s)) (hb : W.cell? b = some (.string t)) (hs : s.data.toList = l) (ht : t.data.toList = m) (hne : l ≠ m) : a ≠ b := by
  rintro rfl
  have e := Option.some.inj (ha.symm.trans hb)
  injection e with e
  subst e
  exact hne (hs.symm.trans ht)
set_option maxRecDepth 100000 in
theorem errs_of {W : World} (h : laidMetH Tryd.prog fourLaid W) : Errs W := by
  rw [MakeChecks.laidMetH_plain _ _ _ (by kernel_rfl)] at h
  unfold fourLaid Rows.laid_loop_example_g00387_impl_errNotValid Rows.laid_loop_example_g00387_impl_errNoPeer Rows.laid_loop_example_g00387_impl_errNoRoom Rows.laid_loop_example_g00387_impl_errWrongState at h
  obtain ⟨a0, a1, s0, s1, c0, c1, t0, t1, hv0, hv1, hc0, hs0, hz0, hc1, hs1, hz1, hn01, hb0, hb1⟩ := laid_sentinels2 h gE0 tE0 gE1 tE1 Tryd.underlying51 rowE Tryd.underlying102 Tryd.underlying128 rfl rfl Tryd.underlying9 cellsEs cellsS9
  obtain ⟨a2, a3, s2, s3, c2, c3, t2, t3, hv2, hv3, hc2, hs2, hz2, hc3, hs3, hz3, hn23, hb2, hb3⟩ := laid_sentinels2 h.tail.tail gE2 tE2 gE3 tE3 Tryd.underlying51 rowE Tryd.underlying102 Tryd.underlying128 rfl rfl Tryd.underlying9 cellsEs cellsS9
  refine ⟨a0, a1, a2, a3, ⟨?_, ?_, ?_, ?_⟩, ⟨⟨c0, t0, hb0⟩, ⟨c1, t1, hb1⟩, ⟨c2, t2, hb2⟩, ⟨c3, t3, hb3⟩⟩, ⟨hn01, addr_ne hc0 hc2 hs0 hs2 (by decide), addr_ne hc0 hc3 hs0 hs3 (by decide)⟩, ⟨addr_ne hc1 hc2 hs1 hs2 (by decide), addr_ne hc1 hc3 hs1 hs3 (by decide)⟩, hn23⟩
  · simpa using World.var?_cell gE0 hv0 0
  · simpa using World.var?_cell gE1 hv1 0
  · simpa using World.var?_cell gE2 hv2 0
  · simpa using World.var?_cell gE3 hv3 0
def layCells (c : Array Value) : Obj → Obj
  | .cells _ t frozen => .cells c t frozen
  | o => o
def txtC (l : List UInt8) : Obj := .cells #[.string ⟨l.toArray⟩] 128
/-- So many blocks has the settled world. -/
noncomputable def lowB : Nat := (World.holding Tryd.prog default ⟨#[], #[], []⟩).heap.size
/-- A world in which the errors lie as their initialisers lay them. -/
noncomputable def fourWorld (os : Os) : World :=
  let w0 := World.holding Tryd.prog os ⟨#[txtC [110, 111, 116, 32, 118, 97, 108, 105, 100], txtC [110, 111, 32, 115, 117, 99, 104, 32, 112, 101, 101, 114], txtC [110, 111, 32, 114, 111, 111, 109, 32, 102, 111, 114, 32, 97, 32, 112, 101, 101, 114], txtC [110, 111, 116, 32, 105, 110, 32, 116, 104, 105, 115, 32, 115, 116, 97, 116, 101, 32, 111, 102, 32, 116, 104, 101, 32, 112, 101, 101, 114]], #[], []⟩
  { w0 with heap := (((w0.heap.modify 0 (layCells #[.iface 102 (.pointer (some ⟨lowB, 0, none⟩))])).modify 3 (layCells #[.iface 102 (.pointer (some ⟨lowB + 1, 0, none⟩))])).modify 2 (layCells #[.iface 102 (.pointer (some ⟨lowB + 2, 0, none⟩))])).modify 1 (layCells #[.iface 102 (.pointer (some ⟨lowB + 3, 0, none⟩))]) }
set_option maxRecDepth 100000 in
theorem four_met (os : Os) (args : Array Value) : laidMetH Tryd.prog fourLaid ((fourWorld os).forCall (fun _ _ => 0) ⟨#[], args, []⟩).memory := by
  rw [MakeChecks.laidMetH_plain _ _ _ (by kernel_rfl)]
  exact laidMet_of_run' 8 (by kernel_rfl) (by kernel_rfl)
end Go.Proofs.YtkjkfcljejjpbaaDoor
