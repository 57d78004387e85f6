/- Rows whose cells are marked one after another. -/
import Derived.Test.YtpjmcpfmnlfmdaaRowsC
import Derived.Deep.MidRow
namespace Go.Proofs.Ytpjmcpfmnlfmdaa
set_option linter.unusedSimpArgs false
set_option linter.unusedVariables false
open Go.RowKit

/-- The first m cells of L are the marks from k on. -/
def Marked (f : Nat → Nat → Value) (k : Nat) (L : List Value) (m : Nat) : Prop := ∀ q, q < m → L[q]? = some (f q (k + q))
theorem Marked.step {f : Nat → Nat → Value} {k : Nat} {L : List Value} {m : Nat} (h : Marked f k L m) (hm : m < L.length) {u : Value} (hu : u = f m (k + m)) : Marked f k (L.set m u) (m + 1) := by
  intro q hq
  by_cases e : q = m
  · subst e
    rw [List.getElem?_set_self hm, hu]
  · rw [List.getElem?_set_ne (by omega)]
    exact h q (by omega)
/-- All blocks but g are as they were. -/
def Keep (g : Nat) (w W : World) : Prop := w.heap.size ≤ W.heap.size ∧ ∀ k, k < w.heap.size → k ≠ g → W.heap[k]? = w.heap[k]?
theorem Keep.refl (g : Nat) (w : World) : Keep g w w := ⟨Nat.le_refl _, fun _ _ _ => rfl⟩
theorem Keep.on {g : Nat} {w W W2 : World} (h : Keep g w W) (hb : Below W.heap.size W W2) : Keep g w W2 := ⟨Nat.le_trans h.1 hb.size, fun k hk hne => (hb.block k (Nat.lt_of_lt_of_le hk h.1)).trans (h.2 k hk hne)⟩
theorem Keep.put {g : Nat} {w W : World} (h : Keep g w W) (i : Nat) (u : Value) : Keep g w (W.setCell ⟨g, i, none⟩ u) := ⟨by simpa [World.setCell] using h.1, fun k hk hne => (heap_setCell_other W ⟨g, i, none⟩ k u hne).trans (h.2 k hk hne)⟩
theorem Keep.arr {g b t : Nat} {cs : List Value} {w W : World} (h : Keep g w W) (hA : Arr w b t cs) (hne : b ≠ g) : Arr W b t cs := (h.2 b (Array.getElem?_eq_some_iff.1 hA).1 hne).trans hA
theorem Keep.own {α : Type} {enc : α → List Value} {g B e size : Nat} {v : Value} {xs : List α} {w W : World} (h : Keep g w W) (ho : OwnC enc w B e size v xs) (hne : ∀ k, v.ownBlock = some k → k ≠ g) : OwnC enc W B e size v xs := by
  refine ⟨ho.1, ?_⟩
  rcases ho.2 with h0 | ⟨b, cap, cur, h1, h2, h3, h4⟩
  · exact .inl h0
  · refine .inr ⟨b, cap, cur, h1, h2, (h.2 b (Array.getElem?_eq_some_iff.1 h3).1 (hne b ?_)).trans h3, h4⟩
    rw [h1]
    rfl
/-- The slice v is a row of n elements of size cells each; so many cells are marked so far; below B the world is as w, and so is every block but the row's. -/
def MRow (f : Nat → Nat → Value) (k : Nat) (w : World) (B e size g n cap : Nat) (W : World) (m : Nat) : Prop := (∃ L, W.ownsRow B e size (.slice (some ⟨g, 0, none⟩) n cap) n L ∧ Marked f k L m) ∧ Below B w W ∧ B ≤ w.heap.size ∧ Keep g w W
theorem MRow.on {f : Nat → Nat → Value} {k B e size g n cap m : Nat} {w W W2 : World} (h : MRow f k w B e size g n cap W m) (hb : Below W.heap.size W W2) : MRow f k w B e size g n cap W2 m := by
  obtain ⟨⟨L, h1, h2⟩, h3, h4, h5⟩ := h
  exact ⟨⟨L, ownsRow_on h1 hb, h2⟩, h3.trans (hb.mono (Nat.le_trans h4 h3.size)), h4, h5.on hb⟩
theorem MRow.put {f : Nat → Nat → Value} {k B e size g n cap m : Nat} {w W : World} (h : MRow f k w B e size g n cap W m) (hm : m < n * size) {u : Value} (hu : u = f m (k + m)) : MRow f k w B e size g n cap (W.setCell ⟨g, m, none⟩ u) (m + 1) := by
  obtain ⟨⟨L, h1, h2⟩, h3, h4, h5⟩ := h
  exact ⟨⟨L.set m u, (h1.stored m u).1, h2.step (by rw [h1.1]; exact hm) hu⟩, h3.setCell (p := ⟨g, m, none⟩) (h1.lt g rfl).1 u, h4, h5.put m u⟩
theorem MRow.there {f : Nat → Nat → Value} {k B e size g n cap m : Nat} {w W : World} (h : MRow f k w B e size g n cap W m) {q : Nat} (hq : q < n * size) : (∃ u, W.cell? ⟨g, q, none⟩ = some u) ∧ W.frozen? ⟨g, q, none⟩ = false := by
  obtain ⟨⟨L, h1, h2⟩, _⟩ := h
  refine ⟨?_, h1.frozenAt q⟩
  rw [h1.cellAt q hq]
  exact ⟨L[q]'(by rw [h1.1]; exact hq), List.getElem?_eq_getElem _⟩
theorem MRow.cell {f : Nat → Nat → Value} {k B e size g n cap m : Nat} {w W : World} (h : MRow f k w B e size g n cap W m) {q : Nat} (hq : q < n * size) (hm : q < m) : W.cell? ⟨g, q, none⟩ = some (f q (k + q)) := by
  obtain ⟨⟨L, h1, h2⟩, _⟩ := h
  rw [h1.cellAt q hq]
  exact h2 q hm
theorem MRow.lt {f : Nat → Nat → Value} {k B e size g n cap m : Nat} {w W : World} (h : MRow f k w B e size g n cap W m) : B ≤ g ∧ g < W.heap.size := by
  obtain ⟨⟨L, h1, h2⟩, _⟩ := h
  exact h1.lt g rfl
theorem mrow_of {α : Type} {enc : α → List Value} {f : Nat → Nat → Value} {k B e size g n cap : Nat} {w : World} {xs : List α} (h : OwnC enc w B e size (.slice (some ⟨g, 0, none⟩) n cap) xs) (hB : B ≤ w.heap.size) : MRow f k w B e size g n cap w 0 := by
  have hn : n = xs.length := by
    rcases h.2 with ⟨h0, _⟩ | ⟨g', cap', cur, h1, _⟩
    · cases h0
    · injection h1 with _ h2 _
  subst hn
  exact ⟨⟨_, h, fun q hq => absurd hq (Nat.not_lt_zero _)⟩, Below.refl _ _, hB, Keep.refl _ _⟩
/-- The slice v of n elements is marked from k on. -/
def MOwn (f : Nat → Nat → Value) (k : Nat) (B e size : Nat) (v : Value) (n : Nat) (W : World) : Prop := ∃ p cap, v = .slice p n cap ∧ (n = 0 ∨ ∃ g w, p = some ⟨g, 0, none⟩ ∧ MRow f k w B e size g n cap W (n * size))
theorem MOwn.on {f : Nat → Nat → Value} {k B e size n : Nat} {v : Value} {W W2 : World} (h : MOwn f k B e size v n W) (hb : Below W.heap.size W W2) : MOwn f k B e size v n W2 := by
  obtain ⟨p, cap, h1, h2⟩ := h
  refine ⟨p, cap, h1, ?_⟩
  rcases h2 with h0 | ⟨g, w, hp, hM⟩
  · exact .inl h0
  · exact .inr ⟨g, w, hp, hM.on hb⟩
/-- What marking leaves as it was. -/
def MFrame (B : Nat) (v : Value) (w W : World) : Prop := Below B w W ∧ w.heap.size ≤ W.heap.size ∧ ∀ k, k < w.heap.size → (∀ g, v.ownBlock = some g → k ≠ g) → W.heap[k]? = w.heap[k]?
theorem MFrame.arr {B b t : Nat} {v : Value} {cs : List Value} {w W : World} (h : MFrame B v w W) (hA : Arr w b t cs) (hne : ∀ g, v.ownBlock = some g → b ≠ g) : Arr W b t cs := (h.2.2 b (Array.getElem?_eq_some_iff.1 hA).1 hne).trans hA
end Go.Proofs.Ytpjmcpfmnlfmdaa
