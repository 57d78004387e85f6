/- Rows of type Peer: comparison. -/
import Derived.Test.YtkjkfcljejjpbaaDoorRowsC
import Derived.Test.YtkjkfcljejjpbaaDoorDbPeer
import Derived.Deep.RegionHeld3
import Derived.Deep.DeepFit
namespace Go.Proofs.YtkjkfcljejjpbaaDoor
set_option linter.unusedSimpArgs false
set_option linter.unusedVariables false
open Go.RowKit

abbrev Both_pr (a b i : Nat) (x : PrL) (wr W : World) : Prop := ((W.cell? ⟨a, i * 4, none⟩ = some (.string x.d) ∧ W.cell? ⟨a, i * 4 + 1, none⟩ = some (.int .i64 x.i) ∧ W.cell? ⟨a, i * 4 + 2, none⟩ = some (.int .i64 x.s) ∧ W.cell? ⟨a, i * 4 + 3, none⟩ = some (.string x.k)) ∧ (W.cell? ⟨b, i * 4, none⟩ = some (.string x.d) ∧ W.cell? ⟨b, i * 4 + 1, none⟩ = some (.int .i64 x.i) ∧ W.cell? ⟨b, i * 4 + 2, none⟩ = some (.int .i64 x.s) ∧ W.cell? ⟨b, i * 4 + 3, none⟩ = some (.string x.k))) ∧ (Below wr.heap.size wr W ∧ a < wr.heap.size ∧ b < wr.heap.size)
theorem both_pr_on {a b i : Nat} {x : PrL} {wr W W2 : World} (h : Both_pr a b i x wr W) (hb : Below W.heap.size W W2) : Both_pr a b i x wr W2 := by
  obtain ⟨⟨⟨c0, c1, c2, c3⟩, d0, d1, d2, d3⟩, h1, h2, h3⟩ := h
  have ha : a < W.heap.size := Nat.lt_of_lt_of_le h2 h1.size
  have hb0 : b < W.heap.size := Nat.lt_of_lt_of_le h3 h1.size
  exact ⟨⟨⟨(hb.cell (p := ⟨a, i * 4, none⟩) ha).trans c0, (hb.cell (p := ⟨a, i * 4 + 1, none⟩) ha).trans c1, (hb.cell (p := ⟨a, i * 4 + 2, none⟩) ha).trans c2, (hb.cell (p := ⟨a, i * 4 + 3, none⟩) ha).trans c3⟩, (hb.cell (p := ⟨b, i * 4, none⟩) hb0).trans d0, (hb.cell (p := ⟨b, i * 4 + 1, none⟩) hb0).trans d1, (hb.cell (p := ⟨b, i * 4 + 2, none⟩) hb0).trans d2, (hb.cell (p := ⟨b, i * 4 + 3, none⟩) hb0).trans d3⟩, h1.trans (hb.mono h1.size), h2, h3⟩
theorem both_pr_drew {a b i : Nat} {x : PrL} {wr W : World} (h : Both_pr a b i x wr W) : Both_pr a b i x wr W.drew := both_pr_on h (Below.refl _ _).drew
theorem row_pr {w : World} {p : Option Addr} {xs : List PrL} (h : RowC prC 4 w p xs) {i : Nat} (hi : i < xs.length) : ∃ g, p = some ⟨g, 0, none⟩ ∧ g < w.heap.size ∧ w.cell? ⟨g, i * 4, none⟩ = (prC xs[i])[0]? ∧ w.cell? ⟨g, i * 4 + 1, none⟩ = (prC xs[i])[1]? ∧ w.cell? ⟨g, i * 4 + 2, none⟩ = (prC xs[i])[2]? ∧ w.cell? ⟨g, i * 4 + 3, none⟩ = (prC xs[i])[3]? := by
  obtain ⟨g, h1, h2, h3⟩ := h (List.ne_nil_of_length_pos (by omega))
  exact ⟨g, h1, h2, h3 i hi 0 (by decide), h3 i hi 1 (by decide), h3 i hi 2 (by decide), h3 i hi 3 (by decide)⟩
end Go.Proofs.YtkjkfcljejjpbaaDoor
