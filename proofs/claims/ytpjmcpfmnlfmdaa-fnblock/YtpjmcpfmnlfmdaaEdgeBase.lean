/- Draws of all layers: zero bytes as a string; what a source becomes. -/
import Derived.Test.YtpjmcpfmnlfmdaaDrawBase
namespace Go.Proofs.Ytpjmcpfmnlfmdaa
set_option linter.unusedSimpArgs false
set_option linter.unusedVariables false
open Go.RowKit

theorem Arr.other {w w' : World} {b t : Nat} {cs : List Value} {r : Option Nat} (h : Arr w b t cs) (hg : w.grownBy w' r) (hne : r ≠ some b) : Arr w' b t cs := by
  have hlt : b < w.heap.size := by
    rcases Nat.lt_or_ge b w.heap.size with h1 | h1
    · exact h1
    · unfold Arr at h; rw [Array.getElem?_eq_none h1] at h; cases h
  exact (hg.block b hlt (fun e => hne e.symm)).trans h

theorem madeCells_zero (n : Nat) : (madeCells #[Value.int .u8 0] n).toList = (List.replicate n (0 : UInt8)).map byteV := by
  rw [List.map_replicate]
  apply List.ext_getElem
  · simp [size_madeCells]
  · intro i h1 h2
    simp [madeCells, byteV, Nat.mod_one]
/-- string(make([]byte, n)). -/
theorem run_string_made {P : Program} (w : World) (src dst e n : Nat) (hs : P.underlying src = some (.slice e)) (he : P.underlying e = some (.int .u8)) (hd : P.underlying dst = some .string) :
    (convert src dst (.slice (some ⟨w.heap.size, 0, none⟩) n n)).run P (w.alloc (.cells (madeCells #[.int .u8 0] n) e)) = .ok (.string (strOf (List.replicate n 0))) (w.alloc (.cells (madeCells #[.int .u8 0] n) e)) := by
  have hA : Arr (w.alloc (.cells (madeCells #[.int .u8 0] n) e)) w.heap.size e (madeCells #[.int .u8 0] n).toList := heap_alloc_new w _
  refine run_string_arr (P := P) _ src dst e w.heap.size e n n _ (List.replicate n 0) hA ?_ (by simp) hs he hd
  unfold Heads
  rw [madeCells_zero]
  exact List.take_of_length_le (by simp)
theorem src_below {w w1 w2 : World} (hb : Below w.heap.size w w1) (hg : w1.grownBy w2 (some w.heap.size)) : Below w.heap.size w w2 :=
  hb.grown hg hb.size (fun k hk => by simp at hk; omega)

theorem Src.lt {w : World} {B g : Nat} (h : Src w B g) : g < w.heap.size := by
  obtain ⟨_, a, len, cap, at_, mix, size, hA, _⟩ := h
  exact lt_of_cell (hA.cell 0)

theorem SrcRow.heap {w W : World} {B : Nat} {a : Option Addr} {len : Nat} (h : SrcRow w B a len) (hh : W.heap = w.heap) : SrcRow W B a len := by
  intro k hk
  obtain ⟨b, off, z, ha, hB, hc, h0, h1⟩ := h k hk
  exact ⟨b, off, z, ha, hB, by rw [← hc]; unfold World.cell?; rw [hh], h0, h1⟩
theorem SrcRow.lift {w w' : World} {B B' : Nat} {a : Option Addr} {len : Nat} (h : SrcRow w B a len) (hb : Below B w w') (hB : B ≤ B') : SrcRow w' B' a len := by
  intro k hk
  obtain ⟨b, off, z, ha, hlt, hc, h0, h1⟩ := h k hk
  exact ⟨b, off, z, ha, by omega, (hb.cell (p := ⟨b, off + k, none⟩) hlt).trans hc, h0, h1⟩

end Go.Proofs.Ytpjmcpfmnlfmdaa
