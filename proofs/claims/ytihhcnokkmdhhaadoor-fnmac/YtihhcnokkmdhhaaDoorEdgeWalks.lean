/- Draws of all layers: the numbers at some limit, any number, zero bytes as a string; what a source becomes. -/
import Derived.Test.YtihhcnokkmdhhaaDoorDrawWalks
namespace Go.Proofs.YtihhcnokkmdhhaaDoor
open Go.RowKit

def NumAny (v : Value) : Prop := ∃ r : Int, v = .int .i64 r ∧ -9223372036854775808 ≤ r ∧ r ≤ 9223372036854775807
/-- The numbers at some limit. -/
def edges : List Int := [0, 1, -1, 2, 1000, 1001, 2147483648, 2147483647, -2147483648, 4611686018427387904, 9223372036854775807, -9223372036854775808, 1000000, 1000001]
theorem edges_in : ∀ x ∈ edges, -9223372036854775808 ≤ x ∧ x ≤ 9223372036854775807 := by decide

theorem Arr.other {w w' : World} {b t : Nat} {cs : List Value} {r : Option Nat} (h : Arr w b t cs) (hg : w.grownBy w' r) (hne : r ≠ some b) : Arr w' b t cs := by
  have hlt : b < w.heap.size := by
    rcases Nat.lt_or_ge b w.heap.size with h1 | h1
    · exact h1
    · unfold Arr at h; rw [Array.getElem?_eq_none h1] at h; cases h
  exact (hg.block b hlt (fun e => hne e.symm)).trans h

theorem edge_at {w1 : World} {b t R : Nat} (h : Arr w1 b t (edges.map (Value.int .i64))) (hR : R < 14) : ∃ X : Int, X ∈ edges ∧ w1.cell? ⟨b, R, none⟩ = some (.int .i64 X) := by
  have hl : R < edges.length := hR
  refine ⟨edges[R], List.getElem_mem hl, ?_⟩
  rw [h.cell]
  simp [List.getElem?_eq_getElem hl]

set_option maxRecDepth 100000 in
set_option maxHeartbeats 2000000 in
theorem src_edge (B g : Nat) (w : World) (hS : Src w B g) (hg : g < w.heap.size) :
    Calls Tryd.prog 23 #[.pointer (some ⟨g, 0, none⟩)] w (Drew B g w NumAny) := by
  have HS := Lib.hid hS
  clear hS
  have hF0 : Arr (w.alloc (.cells #[.int .i64 0, .int .i64 1, .int .i64 (-1), .int .i64 2, .int .i64 1000, .int .i64 1001, .int .i64 2147483648, .int .i64 2147483647, .int .i64 (-2147483648), .int .i64 4611686018427387904, .int .i64 9223372036854775807, .int .i64 (-9223372036854775808), .int .i64 1000000, .int .i64 1000001] 2)) w.heap.size 2 (edges.map (Value.int .i64)) := Arr.fresh w 2 (edges.map (Value.int .i64))
  have hF := Lib.hid hF0
  clear hF0
  have hne : (some g : Option Nat) ≠ some w.heap.size := fun e => by injection e; omega
  go_enter Tryd.func23, Tryd.ntmps23
  go_wp2_with fail
  refine (src_n B g 14 _ (by omega) (HS.out.alloc _)).mono ?_
  rintro e w1 ⟨_, rfl, ⟨r, rfl, h0, h1⟩, hS1, hg1⟩
  obtain ⟨R, rfl⟩ : ∃ R : Nat, r = R := ⟨r.toNat, by omega⟩
  have hR : R < 14 := by omega
  have hAr := hF.out.other hg1 hne
  obtain ⟨X, hX, hcell⟩ := edge_at hAr hR
  clear hAr hF
  go_wp2
  go_ret
  exact ⟨_, rfl, ⟨X, rfl, edges_in X hX⟩, hS1, grown_same (grown_alloc (World.grownBy.refl w _) _) hg1⟩

theorem madeCells_zero (n : Nat) : (madeCells #[Value.int .u8 0] n).toList = (List.replicate n (0 : UInt8)).map byteV := by
  rw [List.map_replicate]
  apply List.ext_getElem
  · simp [size_madeCells]
  · intro i h1 h2
    simp [madeCells, byteV, Nat.mod_one]
/-- string(make([]byte, n)). -/
theorem run_string_made {P : Program} (w : World) (src dst e n : Nat) (hs : P.underlying src = some (.slice e)) (he : P.underlying e = some (.int .u8)) (hd : P.underlying dst = some .string) :
    (convert src dst (.slice (some ⟨w.heap.size, 0, none⟩) n n)).run P (w.alloc (.cells (madeCells #[.int .u8 0] n) e)) = .ok (.string (strOf (List.replicate n 0))) (w.alloc (.cells (madeCells #[.int .u8 0] n) e)) := by
  have hA : Arr (w.alloc (.cells (madeCells #[.int .u8 0] n) e)) w.heap.size e (madeCells #[.int .u8 0] n).toList := heap_alloc_new w _
  refine run_string_arr (P := P) _ src dst e w.heap.size e n n _ (List.replicate n 0) hA ?_ (by simp) hs he hd
  unfold Heads
  rw [madeCells_zero]
  exact List.take_of_length_le (by simp)
theorem src_below {w w1 w2 : World} (hb : Below w.heap.size w w1) (hg : w1.grownBy w2 (some w.heap.size)) : Below w.heap.size w w2 :=
  hb.grown hg hb.size (fun k hk => by simp at hk; omega)

theorem Src.lt {w : World} {B g : Nat} (h : Src w B g) : g < w.heap.size := by
  obtain ⟨_, a, len, cap, at_, mix, size, hA, _⟩ := h
  exact lt_of_cell (hA.cell 0)

theorem SrcRow.heap {w W : World} {B : Nat} {a : Option Addr} {len : Nat} (h : SrcRow w B a len) (hh : W.heap = w.heap) : SrcRow W B a len := by
  intro k hk
  obtain ⟨b, off, z, ha, hB, hc, h0, h1⟩ := h k hk
  exact ⟨b, off, z, ha, hB, by rw [← hc]; unfold World.cell?; rw [hh], h0, h1⟩
theorem SrcRow.lift {w w' : World} {B B' : Nat} {a : Option Addr} {len : Nat} (h : SrcRow w B a len) (hb : Below B w w') (hB : B ≤ B') : SrcRow w' B' a len := by
  intro k hk
  obtain ⟨b, off, z, ha, hlt, hc, h0, h1⟩ := h k hk
  exact ⟨b, off, z, ha, by omega, (hb.cell (p := ⟨b, off + k, none⟩) hlt).trans hc, h0, h1⟩

end Go.Proofs.YtihhcnokkmdhhaaDoor
