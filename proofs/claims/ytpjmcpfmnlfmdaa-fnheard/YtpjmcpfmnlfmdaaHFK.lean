/- Several parts in one text: StReplyI, StReplyS, StFault. -/
import Derived.Test.YtpjmcpfmnlfmdaaHFI
import Derived.Test.YtpjmcpfmnlfmdaaHFS
namespace Go.Proofs.Ytpjmcpfmnlfmdaa
set_option linter.unusedSimpArgs false
set_option linter.unusedVariables false
open Go.RowKit

/-- A slice of one string. -/
def OneStr (W : World) (v : Value) (s : ByteArray) : Prop := ∃ g, v = .slice (some ⟨g, 0, none⟩) 1 1 ∧ W.cell? ⟨g, 0, none⟩ = some (.string s)
theorem OneStr.on {W W' : World} {v : Value} {s : ByteArray} (h : OneStr W v s) (hb : Below W.heap.size W W') : OneStr W' v s := by
  obtain ⟨g, rfl, hc⟩ := h
  exact ⟨g, rfl, (hb.cell (p := ⟨g, 0, none⟩) (lt_of_cellJ hc)).trans hc⟩
theorem oneStr_new (W : World) (s : ByteArray) (t : Nat) : OneStr (W.alloc (.cells #[.string s] t)) (.slice (some ⟨W.heap.size, 0, none⟩) 1 1) s := ⟨_, rfl, one_at W s t⟩
theorem OneStr.joined {W : World} {v : Value} {s : ByteArray} (h : OneStr W v s) (hs : s.size ≤ 2000000) : Calls Try.prog 48 #[v] W fun e w' => e = .returned (.string s) ∧ Below W.heap.size W w' := by
  obtain ⟨g, rfl, hc⟩ := h
  exact joined_at g s W hs hc
/-- A new stanza, empty. -/
def ResAt (B : Nat) (W : World) (v : Value) : Prop := ∃ g, v = .pointer (some ⟨g, 0, none⟩) ∧ B ≤ g ∧ Arr W g 41 [.string ⟨#[]⟩, .string ⟨#[]⟩, .string ⟨#[]⟩, .string ⟨#[]⟩, .int .i64 0, .string ⟨#[]⟩]
theorem ResAt.on {B : Nat} {W W' : World} {v : Value} (h : ResAt B W v) (hb : Below W.heap.size W W') : ResAt B W' v := by
  obtain ⟨g, rfl, hB, hA⟩ := h
  exact ⟨g, rfl, hB, arr_below hA hb⟩
theorem arr_six0 {w : World} {g t : Nat} {a b c d e f : Value} (h : Arr w g t [a, b, c, d, e, f]) : (w.cell? ⟨g, 0, none⟩ = some a ∧ w.cell? ⟨g, 1, none⟩ = some b ∧ w.cell? ⟨g, 2, none⟩ = some c ∧ w.cell? ⟨g, 3, none⟩ = some d ∧ w.cell? ⟨g, 4, none⟩ = some e ∧ w.cell? ⟨g, 5, none⟩ = some f) ∧
    w.frozen? ⟨g, 0, none⟩ = false ∧ w.frozen? ⟨g, 1, none⟩ = false ∧ w.frozen? ⟨g, 2, none⟩ = false ∧ w.frozen? ⟨g, 3, none⟩ = false ∧ w.frozen? ⟨g, 4, none⟩ = false ∧ w.frozen? ⟨g, 5, none⟩ = false :=
  ⟨⟨h.cell 0, h.cell 1, h.cell 2, h.cell 3, h.cell 4, h.cell 5⟩, h.free 0, h.free 1, h.free 2, h.free 3, h.free 4, h.free 5⟩
def put6 (w : World) (g : Nat) (a b c d e f : Value) : World := (((((w.setCell ⟨g, 0, none⟩ a).setCell ⟨g, 1, none⟩ b).setCell ⟨g, 2, none⟩ c).setCell ⟨g, 3, none⟩ d).setCell ⟨g, 4, none⟩ e).setCell ⟨g, 5, none⟩ f
theorem arr_put6 {w : World} {g t : Nat} {x0 x1 x2 x3 x4 x5 : Value} (h : Arr w g t [x0, x1, x2, x3, x4, x5]) (a b c d e f : Value) : Arr (put6 w g a b c d e f) g t [a, b, c, d, e, f] :=
  (((((h.put 0 a).put 1 b).put 2 c).put 3 d).put 4 e).put 5 f
theorem arr_far6 {w : World} {g g' t : Nat} {cs : List Value} (h : Arr w g t cs) (hne : g ≠ g') (a b c d e f : Value) : Arr (put6 w g' a b c d e f) g t cs := by
  have s : ∀ (w : World) (i : Nat) (u : Value), Arr w g t cs → Arr (w.setCell ⟨g', i, none⟩ u) g t cs := fun w i u h => by
    unfold Arr at h ⊢
    rw [← h]
    exact Below.heap_setCell w ⟨g', i, none⟩ u g (by simpa using hne)
  exact s _ _ _ (s _ _ _ (s _ _ _ (s _ _ _ (s _ _ _ (s _ _ _ h)))))
theorem below_put6 {B g : Nat} {w w1 : World} (h : Below B w w1) (hg : B ≤ g) (a b c d e f : Value) : Below B w (put6 w1 g a b c d e f) :=
  (((((h.setCell (p := ⟨g, 0, none⟩) hg a).setCell (p := ⟨g, 1, none⟩) hg b).setCell (p := ⟨g, 2, none⟩) hg c).setCell (p := ⟨g, 3, none⟩) hg d).setCell (p := ⟨g, 4, none⟩) hg e).setCell (p := ⟨g, 5, none⟩) hg f
/-- What each operation of the answer's making has left. -/
structure RepA (w : World) (k kd o f : ByteArray) (n : Int) (bd : ByteArray) (b1 c1 b2 c2 b3 c3 b4 c4 b5 c5 bu al : Bool) (v10 v11 v13 v14 v17 v18 v21 v22 v26 v27 v28 v7 : Value) (W : World) : Prop where
  p1 : b1 = true → OneStr W v10 k
  q1 : c1 = true → v11 = .string k
  p2 : b2 = true → OneStr W v13 kd
  q2 : c2 = true → v14 = .string kd
  p3 : b3 = true → OneStr W v17 o
  q3 : c3 = true → v18 = .string o
  p4 : b4 = true → OneStr W v21 f
  q4 : c4 = true → v22 = .string f
  p5 : b5 = true → OneStr W v26 bd
  q5 : c5 = true → v27 = .string bd
  pu : bu = true → v28 = .agg #[.string k, .string kd, .string o, .string f, .int .i64 n, .string bd]
  pa : al = true → ResAt (w.heap.size + 2) W v7
theorem RepA.on {w : World} {k kd o f : ByteArray} {n : Int} {bd : ByteArray} {b1 c1 b2 c2 b3 c3 b4 c4 b5 c5 bu al : Bool} {v10 v11 v13 v14 v17 v18 v21 v22 v26 v27 v28 v7 : Value} {W W' : World} (h : RepA w k kd o f n bd b1 c1 b2 c2 b3 c3 b4 c4 b5 c5 bu al v10 v11 v13 v14 v17 v18 v21 v22 v26 v27 v28 v7 W) (hb : Below W.heap.size W W') : RepA w k kd o f n bd b1 c1 b2 c2 b3 c3 b4 c4 b5 c5 bu al v10 v11 v13 v14 v17 v18 v21 v22 v26 v27 v28 v7 W' :=
  { h with
    p1 := fun e => (h.p1 e).on hb
    p2 := fun e => (h.p2 e).on hb
    p3 := fun e => (h.p3 e).on hb
    p4 := fun e => (h.p4 e).on hb
    p5 := fun e => (h.p5 e).on hb
    pa := fun e => (h.pa e).on hb }
end Go.Proofs.Ytpjmcpfmnlfmdaa

namespace Go.Proofs.Ytpjmcpfmnlfmdaa
set_option linter.unusedSimpArgs false
set_option linter.unusedVariables false
open Go.RowKit

end Go.Proofs.Ytpjmcpfmnlfmdaa

namespace Go.Proofs.Ytpjmcpfmnlfmdaa
set_option linter.unusedSimpArgs false
set_option linter.unusedVariables false
open Go.RowKit

end Go.Proofs.Ytpjmcpfmnlfmdaa
