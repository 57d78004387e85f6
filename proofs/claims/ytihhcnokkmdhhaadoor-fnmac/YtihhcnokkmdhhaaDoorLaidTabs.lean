/- What the rows' lists say of the program's two tables: their cells, their reading before and behind a call. -/
import Derived.Test.YtihhcnokkmdhhaaDoorRows
import Derived.Test.YtihhcnokkmdhhaaDoorShaProg6
import Derived.ProofKit
import Derived.LaidMore
import Derived.OpenShut
import Derived.LaidHandle
import Derived.LaidLaws
import Derived.Lib.LaidTab
import Derived.Stop.LaidErr
import Derived.Below
namespace Go.Proofs.YtihhcnokkmdhhaaDoor
open Go.ChangeShapes Go.WideShapes Go.ChangeAt Go.RowKit

theorem gFirst : Tryd.prog.globalNamed "loop.example/g00387/impl.firstState" = some 0 := by kernel_rfl
theorem gKeys : Tryd.prog.globalNamed "loop.example/g00387/impl.roundKeys" = some 1 := by kernel_rfl
theorem tyFirst : (Tryd.prog.globals[0]?).map (·.type) = some 50 := by kernel_rfl
theorem tyKeys : (Tryd.prog.globals[1]?).map (·.type) = some 66 := by kernel_rfl
theorem cellsFirst : Tryd.prog.cellsOf 50 = 8 := by kernel_rfl
theorem cellsKeys : Tryd.prog.cellsOf 66 = 64 := by kernel_rfl
theorem cellsWord : Tryd.prog.cellsOf 49 = 1 := by kernel_rfl
def firstZ : List Int := shaInit.words.map wz
def keysZ : List Int := shaK.map wz
def firstC : Array Value := (firstZ.map fun z => Value.int .u32 z).toArray
def keysC : Array Value := (keysZ.map fun z => Value.int .u32 z).toArray
/-- The rows' list. -/
def tabsLaid : List (String × DataW Unit) := [("loop.example/g00387/impl.firstState", Rows.laid_loop_example_g00387_impl_firstState), ("loop.example/g00387/impl.roundKeys", Rows.laid_loop_example_g00387_impl_roundKeys)]
theorem tabs_data {W : World} (h : laidMetH Tryd.prog tabsLaid W) : W.var? Tryd.prog "loop.example/g00387/impl.firstState" = some firstC ∧ W.var? Tryd.prog "loop.example/g00387/impl.roundKeys" = some keysC := by
  rw [MakeChecks.laidMetH_plain _ _ _ (by kernel_rfl)] at h
  have h' : laidMet Tryd.prog [("loop.example/g00387/impl.firstState", Lib.tabData .u32 firstZ), ("loop.example/g00387/impl.roundKeys", Lib.tabData .u32 keysZ)] W := h
  exact ⟨Lib.tabIs_of_head gFirst tyFirst Tryd.underlying50 Tryd.underlying49 cellsWord cellsFirst h', Lib.tabIs_of_head gKeys tyKeys Tryd.underlying66 Tryd.underlying49 cellsWord cellsKeys h'.tail⟩
theorem tabs_of {W : World} (h : laidMetH Tryd.prog tabsLaid W) : Tabs W := by
  obtain ⟨h1, h2⟩ := tabs_data h
  have k1 : KeysAt W := fun k hk => by
    have hl : k < shaK.length := hk
    have := Lib.TabIs.cell h2 gKeys k (by unfold keysZ; rw [List.length_map]; exact hk)
    rw [this]
    unfold keysZ
    rw [List.getD_eq_getElem?_getD, List.getElem?_map, List.getElem?_eq_getElem hl, List.getD_eq_getElem?_getD, List.getElem?_eq_getElem hl]
    rfl
  refine ⟨k1, fun j v hv => ?_, ?_⟩
  · have hj : j < 8 := (List.getElem?_eq_some_iff.1 hv).1
    have := Lib.TabIs.cell h1 gFirst j (by unfold firstZ; rw [List.length_map]; exact hj)
    rw [Nat.zero_add, this]
    rw [cells_at shaInit hj] at hv
    rw [← hv]
    have e : j = 0 ∨ j = 1 ∨ j = 2 ∨ j = 3 ∨ j = 4 ∨ j = 5 ∨ j = 6 ∨ j = 7 := by omega
    rcases e with rfl | rfl | rfl | rfl | rfl | rfl | rfl | rfl <;> rfl
  · have := lt_cell (k1 0 (by omega))
    omega
theorem reads_first {H : Type} (enc : TypeId × Value → H) (W : World) (sp : Nat → Bool) : DataW.trod enc Tryd.prog W 0 sp true 3 50 firstC.toList = some (Rows.laid_loop_example_g00387_impl_firstState, []) := by kernel_rfl
theorem reads_keys {H : Type} (enc : TypeId × Value → H) (W : World) (sp : Nat → Bool) : DataW.trod enc Tryd.prog W 0 sp true 3 66 keysC.toList = some (Rows.laid_loop_example_g00387_impl_roundKeys, []) := by kernel_rfl
theorem var_kept {W W' : World} (hb : Below W.heap.size W W') {n : String} {g : Nat} (hg : Tryd.prog.globalNamed n = some g) (hl : g < W.heap.size) : W'.var? Tryd.prog n = W.var? Tryd.prog n := by
  unfold World.var?
  rw [hg]
  simp only [Option.bind_some]
  rw [hb.block g hl]
/-- The tables read behind the call as they read before it. -/
theorem tabs_again {H : Type} {enc : TypeId × Value → H} {W W' : World} {gs : List (DataW H)} {q : List MemPlace} (h : laidMetH Tryd.prog tabsLaid W) (hb : Below W.heap.size W W')
    (hV : DataW.TrodVars enc Tryd.prog W (fun _ => true) ["loop.example/g00387/impl.firstState", "loop.example/g00387/impl.roundKeys"] gs q) (sp : Nat → Bool) :
    gs = [Rows.laid_loop_example_g00387_impl_firstState, Rows.laid_loop_example_g00387_impl_roundKeys] ∧
    DataW.TrodVars enc Tryd.prog W' sp ["loop.example/g00387/impl.firstState", "loop.example/g00387/impl.roundKeys"] [Rows.laid_loop_example_g00387_impl_firstState, Rows.laid_loop_example_g00387_impl_roundKeys]
      (MemPlace.row ⟨0, 0, none⟩ firstC.size ++ [] ++ (MemPlace.row ⟨1, 0, none⟩ keysC.size ++ [] ++ [])) := by
  obtain ⟨h1, h2⟩ := tabs_data h
  have hT := tabs_of h
  obtain ⟨g0, t0, cs0, f0, d0, p0, g1, t1, cs1, f1, d1, p1, rfl, a1, a2, a3, a4, b1, b2, b3, b4, _⟩ := trodVars_two hV
  obtain rfl := Option.some.inj (gFirst.symm.trans a1)
  obtain rfl := Option.some.inj (gKeys.symm.trans b1)
  obtain rfl := Option.some.inj (tyFirst.symm.trans a2)
  obtain rfl := Option.some.inj (tyKeys.symm.trans b2)
  obtain rfl : cs0 = firstC := Option.some.inj (a3.symm.trans h1)
  obtain rfl : cs1 = keysC := Option.some.inj (b3.symm.trans h2)
  obtain ⟨rfl, rfl⟩ := DataW.Trod.unique (v := .agg firstC) ⟨f0, a4⟩ ⟨3, reads_first enc W _⟩
  obtain ⟨rfl, rfl⟩ := DataW.Trod.unique (v := .agg keysC) ⟨f1, b4⟩ ⟨3, reads_keys enc W _⟩
  have hs := hT.2.2
  refine ⟨rfl, 0, 50, firstC, 3, [], _, gFirst, tyFirst, (var_kept hb gFirst (by omega)).trans h1, reads_first enc W' sp, ⟨1, 66, keysC, 3, [], [], gKeys, tyKeys, (var_kept hb gKeys (by omega)).trans h2, reads_keys enc W' sp, rfl, rfl⟩, rfl⟩
def putCells (c : Array Value) : Obj → Obj
  | .cells _ t frozen => .cells c t frozen
  | o => o
/-- A world in which the tables lie as their initialisers lay them. -/
noncomputable def tabsWorld (os : Os) : World :=
  { World.holding Tryd.prog os ⟨#[], #[], []⟩ with heap := ((World.holding Tryd.prog os ⟨#[], #[], []⟩).heap.modify 0 (putCells firstC)).modify 1 (putCells keysC) }
theorem tabs_met (os : Os) (args : Array Value) : laidMetH Tryd.prog tabsLaid ((tabsWorld os).forCall (fun _ _ => 0) ⟨#[], args, []⟩).memory := by
  rw [MakeChecks.laidMetH_plain _ _ _ (by kernel_rfl)]
  exact laidMet_of_run' 8 (by kernel_rfl) (by kernel_rfl)
end Go.Proofs.YtihhcnokkmdhhaaDoor
