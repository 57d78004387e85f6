/- What impl.fieldText, impl.idText, impl.endTag and impl.StanzaText answer. -/
import Derived.Test.YtpbogdfgomfpjaaDoorStTextMath
import Derived.Test.YtpbogdfgomfpjaaDoorStEscI
import Derived.Test.YtpbogdfgomfpjaaDoorShelf
import Derived.Lib.SmallJoins
import Derived.Lib.AppendIntMem
namespace Go.Proofs.YtpbogdfgomfpjaaDoor
set_option linter.unusedSimpArgs false
set_option linter.unusedVariables false
open Go.RowKit Go.Joins

/-- The library's table of powers is as it is laid. -/
def TabP (w : World) : Prop := Lib.TabIs Tryd.prog w "internal/strconv.uint64pow10" .u64 Lib.pow10Tab
theorem gPow : Tryd.prog.globalNamed "internal/strconv.uint64pow10" = some 6 := by kernel_rfl
theorem TabP.below {w w' : World} (h : TabP w) (hb : Below w.heap.size w w') : TabP w' := tab_stays gPow h hb (Nat.le_refl _)
theorem n_cells (w : World) (ss : List ByteArray) (t : Nat) : ∀ j (h : j < ss.length), (w.alloc (.cells (ss.map Value.string).toArray t)).cell? ⟨w.heap.size, j, none⟩ = some (.string ss[j]) := by
  intro j h
  rw [(Arr.fresh w t (ss.map Value.string)).cell, List.getElem?_map, List.getElem?_eq_getElem h]
  rfl
/-- joined of strings laid just ahead of it. -/
theorem joined_new (w : World) (ss : List ByteArray) (hl : ss.length ≤ 100) (htot : (flat ss).length ≤ 1099511627776) :
    Calls Tryd.prog 57 #[.slice (some ⟨w.heap.size, 0, none⟩) ss.length ss.length] (w.alloc (.cells (ss.map Value.string).toArray 9)) fun e w' => e = .returned (.string (strOf (flat ss))) ∧ Below w.heap.size w w' :=
  (impl_joined w.heap.size ss.length ss _ (by simp) (n_cells w ss _) (by omega) htot).mono fun e w' ⟨he, hb⟩ => ⟨he, below_one hb⟩
end Go.Proofs.YtpbogdfgomfpjaaDoor
