/- Blocks of cells, and joined of one string. -/
import Derived.Test.YtpjmcpfmnlfmdaaJidText
import Derived.Deep.RegionHeld3
namespace Go.Proofs.Ytpjmcpfmnlfmdaa
set_option linter.unusedSimpArgs false
set_option linter.unusedVariables false
open Go.RowKit

theorem cell_drew (w : World) (p : Addr) : w.drew.cell? p = w.cell? p := rfl
theorem size_drew (w : World) : w.drew.heap.size = w.heap.size := rfl
theorem one_at (w : World) (s : ByteArray) (t : Nat) : (w.alloc (.cells #[.string s] t)).cell? ⟨w.heap.size, 0, none⟩ = some (.string s) := (Arr.fresh w t [.string s]).cell 0
theorem one_over (w : World) (s : ByteArray) (o : Obj) (t : Nat) : ((w.alloc o).alloc (.cells #[.string s] t)).cell? ⟨w.heap.size + 1, 0, none⟩ = some (.string s) := by
  have := one_at (w.alloc o) s t
  rw [World.size_alloc] at this
  exact this
theorem one_old (w : World) (s : ByteArray) (o : Obj) (t : Nat) : ((w.alloc (.cells #[.string s] t)).alloc o).cell? ⟨w.heap.size, 0, none⟩ = some (.string s) :=
  (World.cell?_alloc_lt (w.alloc (.cells #[.string s] t)) o ⟨w.heap.size, 0, none⟩ (by simp)).trans (one_at w s t)
theorem one_at_d (w : World) (s : ByteArray) (t : Nat) : (w.alloc (.cells #[.string s] t)).drew.cell? ⟨w.heap.size, 0, none⟩ = some (.string s) := one_at w s t
theorem one_over_d (w : World) (s : ByteArray) (o : Obj) (t : Nat) : ((w.alloc o).alloc (.cells #[.string s] t)).drew.cell? ⟨w.heap.size + 1, 0, none⟩ = some (.string s) := one_over w s o t
theorem one_old_d (w : World) (s : ByteArray) (o : Obj) (t : Nat) : ((w.alloc (.cells #[.string s] t)).alloc o).drew.cell? ⟨w.heap.size, 0, none⟩ = some (.string s) := one_old w s o t
theorem one_over_b {w w2 : World} {s : ByteArray} {o : Obj} {t : Nat} (h : Below ((w.alloc o).alloc (.cells #[.string s] t)).drew.heap.size ((w.alloc o).alloc (.cells #[.string s] t)).drew w2) : w2.cell? ⟨w.heap.size + 1, 0, none⟩ = some (.string s) :=
  (h.cell (p := ⟨w.heap.size + 1, 0, none⟩) (by simp [size_drew])).trans (one_over_d w s o t)
theorem one_old_b {w w2 : World} {s : ByteArray} {o : Obj} {t : Nat} (h : Below ((w.alloc (.cells #[.string s] t)).alloc o).drew.heap.size ((w.alloc (.cells #[.string s] t)).alloc o).drew w2) : w2.cell? ⟨w.heap.size, 0, none⟩ = some (.string s) :=
  (h.cell (p := ⟨w.heap.size, 0, none⟩) (by simp [size_drew]; omega)).trans (one_old_d w s o t)
theorem lt_of_cellJ {w : World} {b i : Nat} {v : Value} (h : w.cell? ⟨b, i, none⟩ = some v) : b < w.heap.size := by
  rcases Nat.lt_or_ge b w.heap.size with h1 | h1
  · exact h1
  · simp [World.cell?, Array.getElem?_eq_none h1] at h
/-- joined of one string. -/
theorem joined_at (b : Nat) (s : ByteArray) (W : World) (hs : s.size ≤ 2000000) (hc : W.cell? ⟨b, 0, none⟩ = some (.string s)) :
    Calls Try.prog 48 #[.slice (some ⟨b, 0, none⟩) 1 1] W fun e w' => e = .returned (.string s) ∧ Below W.heap.size W w' := by
  have h := impl_joined b 1 [s] W (lt_of_cellJ hc) (fun j hj => by
    match j, hj with
    | 0, _ => exact hc) (by simp) (by rw [flat_one, size_data]; omega)
  rw [joined_one] at h
  exact h
theorem arr_alloc {w : World} {b t : Nat} {cs : List Value} (h : Arr w b t cs) (o : Obj) : Arr (w.alloc o) b t cs := by
  have hlt : b < w.heap.size := by
    rcases Nat.lt_or_ge b w.heap.size with h1 | h1
    · exact h1
    · unfold Arr at h; rw [Array.getElem?_eq_none h1] at h; cases h
  exact (Below.heap_alloc w o b hlt).trans h
theorem arr_below {w w1 : World} {b t : Nat} {cs : List Value} (h : Arr w b t cs) (hb : Below w.heap.size w w1) : Arr w1 b t cs := by
  have hlt : b < w.heap.size := by
    rcases Nat.lt_or_ge b w.heap.size with h1 | h1
    · exact h1
    · unfold Arr at h; rw [Array.getElem?_eq_none h1] at h; cases h
  exact (hb.block b hlt).trans h
/-- A block of three cells that the call has made for its answer. -/
def Res (W : World) (r : Nat) : Prop := ∃ a b c, Arr W r 69 [a, b, c]
def cellAt (W : World) (b i : Nat) : Value := (W.cell? ⟨b, i, none⟩).getD (.bool false)
theorem bare_kept {w w1 : World} {a b c x y z : Value} {t u : Nat} (h : Below ((w.alloc (.cells #[a, b, c] t)).alloc (.cells #[x, y, z] u)).heap.size ((w.alloc (.cells #[a, b, c] t)).alloc (.cells #[x, y, z] u)) w1) :
    Arr w1 w.heap.size t [a, b, c] ∧ Arr w1 (w.heap.size + 1) u [x, y, z] ∧ Below (w.alloc (.cells #[a, b, c] t)).heap.size (w.alloc (.cells #[a, b, c] t)) w1 := by
  have h1 : Below (w.alloc (.cells #[a, b, c] t)).heap.size (w.alloc (.cells #[a, b, c] t)) w1 := below_one h
  refine ⟨(h1.block w.heap.size (by simp)).trans (Arr.fresh w t [a, b, c]), ?_, h1⟩
  have h2 : Arr w1 (w.alloc (.cells #[a, b, c] t)).heap.size u [x, y, z] := (h.block _ (by simp)).trans (Arr.fresh (w.alloc (.cells #[a, b, c] t)) u [x, y, z])
  rw [World.size_alloc] at h2
  exact h2
theorem arr_three {w : World} {g t : Nat} {a b c : Value} (h : Arr w g t [a, b, c]) : w.cell? ⟨g, 0, none⟩ = some a ∧ w.cell? ⟨g, 1, none⟩ = some b ∧ w.cell? ⟨g, 2, none⟩ = some c ∧ w.frozen? ⟨g, 0, none⟩ = false ∧ w.frozen? ⟨g, 1, none⟩ = false ∧ w.frozen? ⟨g, 2, none⟩ = false :=
  ⟨h.cell 0, h.cell 1, h.cell 2, h.free 0, h.free 1, h.free 2⟩
theorem arr_lt {w : World} {b t : Nat} {cs : List Value} (h : Arr w b t cs) : b < w.heap.size := by
  rcases Nat.lt_or_ge b w.heap.size with h1 | h1
  · exact h1
  · unfold Arr at h; rw [Array.getElem?_eq_none h1] at h; cases h

end Go.Proofs.Ytpjmcpfmnlfmdaa
