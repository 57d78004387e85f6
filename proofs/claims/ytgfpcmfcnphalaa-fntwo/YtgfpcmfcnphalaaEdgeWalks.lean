/- Draws of all layers: the numbers at some limit, any number. -/
import Derived.Test.YtgfpcmfcnphalaaEdgeBase
namespace Go.Proofs.Ytgfpcmfcnphalaa
set_option linter.unusedSimpArgs false
set_option linter.unusedVariables false
open Go.RowKit

def NumAny (v : Value) : Prop := ∃ r : Int, v = .int .i64 r ∧ -9223372036854775808 ≤ r ∧ r ≤ 9223372036854775807
/-- The numbers at some limit. -/
def edges : List Int := [0, 1, -1, 2, 1000, 1001, 2147483648, 2147483647, -2147483648, 4611686018427387904, 9223372036854775807, -9223372036854775808, 1000000, 1000001]
theorem edges_in : ∀ x ∈ edges, -9223372036854775808 ≤ x ∧ x ≤ 9223372036854775807 := by decide

theorem edge_at {w1 : World} {b t R : Nat} (h : Arr w1 b t (edges.map (Value.int .i64))) (hR : R < 14) : ∃ X : Int, X ∈ edges ∧ w1.cell? ⟨b, R, none⟩ = some (.int .i64 X) := by
  have hl : R < edges.length := hR
  refine ⟨edges[R], List.getElem_mem hl, ?_⟩
  rw [h.cell]
  simp [List.getElem?_eq_getElem hl]

set_option maxRecDepth 100000 in
set_option maxHeartbeats 2000000 in
theorem src_edge (B g : Nat) (w : World) (hS : Src w B g) (hg : g < w.heap.size) :
    Calls Try.prog 54 #[.pointer (some ⟨g, 0, none⟩)] w (Drew B g w NumAny) := by
  have HS := Lib.hid hS
  clear hS
  have hF0 : Arr (w.alloc (.cells #[.int .i64 0, .int .i64 1, .int .i64 (-1), .int .i64 2, .int .i64 1000, .int .i64 1001, .int .i64 2147483648, .int .i64 2147483647, .int .i64 (-2147483648), .int .i64 4611686018427387904, .int .i64 9223372036854775807, .int .i64 (-9223372036854775808), .int .i64 1000000, .int .i64 1000001] 2)) w.heap.size 2 (edges.map (Value.int .i64)) := Arr.fresh w 2 (edges.map (Value.int .i64))
  have hF := Lib.hid hF0
  clear hF0
  have hne : (some g : Option Nat) ≠ some w.heap.size := fun e => by injection e; omega
  go_enter Try.func54, Try.ntmps54
  go_wp2_with fail
  refine (src_n B g 14 _ (by omega) (HS.out.alloc _)).mono ?_
  rintro e w1 ⟨_, rfl, ⟨r, rfl, h0, h1⟩, hS1, hg1⟩
  obtain ⟨R, rfl⟩ : ∃ R : Nat, r = R := ⟨r.toNat, by omega⟩
  have hR : R < 14 := by omega
  have hAr := hF.out.other hg1 hne
  obtain ⟨X, hX, hcell⟩ := edge_at hAr hR
  clear hAr hF
  go_wp2
  go_ret
  exact ⟨_, rfl, ⟨X, rfl, edges_in X hX⟩, hS1, grown_same (grown_alloc (World.grownBy.refl w _) _) hg1⟩

end Go.Proofs.Ytgfpcmfcnphalaa
