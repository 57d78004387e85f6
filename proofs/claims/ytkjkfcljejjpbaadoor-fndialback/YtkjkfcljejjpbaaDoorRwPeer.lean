/- Rows of type Peer: their marks. -/
import Derived.Test.YtkjkfcljejjpbaaDoorRowMk
import Derived.Deep.RegionHeld3
import Derived.Deep.DeepFit
import Derived.Lib.SmallJoins
namespace Go.Proofs.YtkjkfcljejjpbaaDoor
set_option linter.unusedSimpArgs false
set_option linter.unusedVariables false
open Go.RowKit

def mk_pr (q k : Nat) : Value := if q % 4 = 2 then .int .i64 (k : Int) else if q % 4 = 1 then .int .i64 (k : Int) else .string (mkT k)
theorem mk_pr_s {q k : Nat} {z : Int} (h1 : q % 4 ≠ 1) (h2 : q % 4 ≠ 2) (hz : z.toNat = k) : Value.string (mkT z.toNat) = mk_pr q k := by
  unfold mk_pr
  rw [if_neg h2, if_neg h1, hz]
theorem mk_pr_1 {q k : Nat} {z : Int} (h : q % 4 = 1) (hz : z = (k : Int)) : Value.int .i64 z = mk_pr q k := by
  unfold mk_pr
  rw [if_neg (by omega), if_pos h, hz]
theorem mk_pr_2 {q k : Nat} {z : Int} (h : q % 4 = 2) (hz : z = (k : Int)) : Value.int .i64 z = mk_pr q k := by
  unfold mk_pr
  rw [if_pos h, hz]
theorem MRow.pr {f : Nat → Nat → Value} {k B e g n cap m : Nat} {w W : World} (h : MRow f k w B e 4 g n cap W m) {i : Nat} (hi : i < n) : ∃ u0 u1 u2 u3, (W.cell? ⟨g, i * 4, none⟩ = some u0 ∧ W.cell? ⟨g, i * 4 + 1, none⟩ = some u1 ∧ W.cell? ⟨g, i * 4 + 2, none⟩ = some u2 ∧ W.cell? ⟨g, i * 4 + 3, none⟩ = some u3) ∧ W.frozen? ⟨g, i * 4, none⟩ = false ∧ W.frozen? ⟨g, i * 4 + 1, none⟩ = false ∧ W.frozen? ⟨g, i * 4 + 2, none⟩ = false ∧ W.frozen? ⟨g, i * 4 + 3, none⟩ = false := by
  obtain ⟨⟨u0, c0⟩, f0⟩ := h.there (q := i * 4) (by omega)
  obtain ⟨⟨u1, c1⟩, f1⟩ := h.there (q := i * 4 + 1) (by omega)
  obtain ⟨⟨u2, c2⟩, f2⟩ := h.there (q := i * 4 + 2) (by omega)
  obtain ⟨⟨u3, c3⟩, f3⟩ := h.there (q := i * 4 + 3) (by omega)
  exact ⟨u0, u1, u2, u3, ⟨c0, c1, c2, c3⟩, f0, f1, f2, f3⟩
abbrev Held_pr (g i : Nat) (z : Int) (wr W : World) : Prop := (W.cell? ⟨g, i * 4, none⟩ = some (.string (mkT (z).toNat)) ∧ W.cell? ⟨g, i * 4 + 1, none⟩ = some (.int .i64 (z + 1)) ∧ W.cell? ⟨g, i * 4 + 2, none⟩ = some (.int .i64 (z + 1 + 1)) ∧ W.cell? ⟨g, i * 4 + 3, none⟩ = some (.string (mkT (z + 1 + 1 + 1).toNat))) ∧ (Below wr.heap.size wr W ∧ g < wr.heap.size)
theorem held_pr_on {g i : Nat} {z : Int} {wr W W2 : World} (h : Held_pr g i z wr W) (hb : Below W.heap.size W W2) : Held_pr g i z wr W2 := by
  obtain ⟨⟨c0, c1, c2, c3⟩, h1, h2⟩ := h
  have hg : g < W.heap.size := Nat.lt_of_lt_of_le h2 h1.size
  exact ⟨⟨(hb.cell (p := ⟨g, i * 4, none⟩) hg).trans c0, (hb.cell (p := ⟨g, i * 4 + 1, none⟩) hg).trans c1, (hb.cell (p := ⟨g, i * 4 + 2, none⟩) hg).trans c2, (hb.cell (p := ⟨g, i * 4 + 3, none⟩) hg).trans c3⟩, h1.trans (hb.mono h1.size), h2⟩
theorem held_pr_drew {g i : Nat} {z : Int} {wr W : World} (h : Held_pr g i z wr W) : Held_pr g i z wr W.drew := held_pr_on h (Below.refl _ _).drew
theorem held_pr_of {k0 B g n cap m i : Nat} {z : Int} {w wr : World} (h : MRow mk_pr k0 w B 43 4 g n cap wr m) (hi : i < n) (hm : i * 4 + 4 ≤ m) (hz : z = (k0 : Int) + i * 4) : Held_pr g i z wr wr := by
  refine ⟨⟨?_, ?_, ?_, ?_⟩, Below.refl _ _, h.lt.2⟩
  · exact (h.cell (by omega) (by omega)).trans (congrArg some (mk_pr_s (by omega) (by omega) (by omega)).symm)
  · exact (h.cell (by omega) (by omega)).trans (congrArg some (mk_pr_1 (by omega) (by omega)).symm)
  · exact (h.cell (by omega) (by omega)).trans (congrArg some (mk_pr_2 (by omega) (by omega)).symm)
  · exact (h.cell (by omega) (by omega)).trans (congrArg some (mk_pr_s (by omega) (by omega) (by omega)).symm)
end Go.Proofs.YtkjkfcljejjpbaaDoor
