/- Several parts in one text: SeFrame, SeLawR, RowMk0, JidText, JidCells, JidReadMath, OwnBytes, JidLow, JidRead, JidReadI, JidReadS, NameWalks. -/
import Derived.Test.YtafdjjdmcnlddaaHNA
import Derived.Test.YtafdjjdmcnlddaaHNB
import Derived.Deep.MidRow
import Derived.Lib.SmallJoins
import Derived.Deep.RegionHeld3
import Derived.Lib.IndexMore
import Derived.Lib.IndexBytes
import Derived.Lib.IndexLaws
import Derived.Test.YtafdjjdmcnlddaaChecked
import Derived.ArgAppend
import Derived.Laws.IdiomStrings
import Derived.WalkKit
import Derived.ProofKit
import Derived.OpenShut
import Derived.Lib.Hide
namespace Go.Proofs.Ytafdjjdmcnlddaa
set_option linter.unusedSimpArgs false
set_option linter.unusedVariables false
open Go.ChangeShapes Go.WideShapes Go.ChangeAt Go.RowKit Go.Joins

/-- A slice of sessions among the arguments. -/
def SsArg (W : World) (a : Option Addr) (len : Nat) (ps : List SeL) : Prop := ps.length = len ∧ len ≤ maxLen ∧ (∀ p ∈ ps, p.wf) ∧ RowA seC 4 W a ps
theorem SsArg.below {W W2 : World} {a : Option Addr} {len : Nat} {ps : List SeL} (h : SsArg W a len ps) (hb : Below W.heap.size W W2) : SsArg W2 a len ps := ⟨h.1, h.2.1, h.2.2.1, h.2.2.2.below hb⟩
theorem addr_plainS {w : World} {x : Addr} {v : Value} (h : w.cell? x = some v) : x = ⟨x.block, x.off, none⟩ := by
  obtain ⟨b, off, sp⟩ := x
  cases sp with
  | none => rfl
  | some s =>
    simp [World.cell?] at h
    split at h <;> cases h
theorem mapM_fourS {f : Nat → Option Value} {cs : List Value} (h : (List.range 4).mapM f = some cs) : ∃ c0 c1 c2 c3, cs = [c0, c1, c2, c3] ∧ f 0 = some c0 ∧ f 1 = some c1 ∧ f 2 = some c2 ∧ f 3 = some c3 := by
  rw [show List.range 4 = [0, 1, 2, 3] from rfl] at h
  simp only [List.mapM_cons, List.mapM_nil, Option.bind_eq_bind, Option.pure_def] at h
  cases h0 : f 0 with
  | none => rw [h0] at h; simp at h
  | some c0 =>
    cases h1 : f 1 with
    | none => rw [h0, h1] at h; simp at h
    | some c1 =>
      cases h2 : f 2 with
      | none => rw [h0, h1, h2] at h; simp at h
      | some c2 =>
        cases h3 : f 3 with
        | none => rw [h0, h1, h2, h3] at h; simp at h
        | some c3 =>
          rw [h0, h1, h2, h3] at h
          simp at h
          exact ⟨c0, c1, c2, c3, h.symm, rfl, rfl, rfl, rfl⟩
theorem cells_fourS {W : World} {base : Nat} {a : Addr} {cs : List Value} (h : W.cells? base a 4 = some cs) : ∃ c0 c1 c2 c3, cs = [c0, c1, c2, c3] ∧ W.cell? (a.add 0) = some c0 ∧ W.cell? (a.add 1) = some c1 ∧ W.cell? (a.add 2) = some c2 ∧ W.cell? (a.add 3) = some c3 := by
  unfold World.cells? at h
  split at h
  · exact mapM_fourS h
  · cases h
end Go.Proofs.Ytafdjjdmcnlddaa

namespace Go.Proofs.Ytafdjjdmcnlddaa
set_option linter.unusedSimpArgs false
set_option linter.unusedVariables false
open Go.RowKit Go.Joins

end Go.Proofs.Ytafdjjdmcnlddaa

namespace Go.Proofs.Ytafdjjdmcnlddaa
set_option linter.unusedSimpArgs false
set_option linter.unusedVariables false
open Go.RowKit

/-- The first m cells of L are the marks from k on. -/
def Marked (f : Nat → Nat → Value) (k : Nat) (L : List Value) (m : Nat) : Prop := ∀ q, q < m → L[q]? = some (f q (k + q))
theorem Marked.step {f : Nat → Nat → Value} {k : Nat} {L : List Value} {m : Nat} (h : Marked f k L m) (hm : m < L.length) {u : Value} (hu : u = f m (k + m)) : Marked f k (L.set m u) (m + 1) := by
  intro q hq
  by_cases e : q = m
  · subst e
    rw [List.getElem?_set_self hm, hu]
  · rw [List.getElem?_set_ne (by omega)]
    exact h q (by omega)
/-- All blocks but g are as they were. -/
def Keep (g : Nat) (w W : World) : Prop := w.heap.size ≤ W.heap.size ∧ ∀ k, k < w.heap.size → k ≠ g → W.heap[k]? = w.heap[k]?
theorem Keep.refl (g : Nat) (w : World) : Keep g w w := ⟨Nat.le_refl _, fun _ _ _ => rfl⟩
theorem Keep.on {g : Nat} {w W W2 : World} (h : Keep g w W) (hb : Below W.heap.size W W2) : Keep g w W2 := ⟨Nat.le_trans h.1 hb.size, fun k hk hne => (hb.block k (Nat.lt_of_lt_of_le hk h.1)).trans (h.2 k hk hne)⟩
theorem Keep.put {g : Nat} {w W : World} (h : Keep g w W) (i : Nat) (u : Value) : Keep g w (W.setCell ⟨g, i, none⟩ u) := ⟨by simpa [World.setCell] using h.1, fun k hk hne => (heap_setCell_other W ⟨g, i, none⟩ k u hne).trans (h.2 k hk hne)⟩
theorem Keep.own {α : Type} {enc : α → List Value} {g B e size : Nat} {v : Value} {xs : List α} {w W : World} (h : Keep g w W) (ho : OwnC enc w B e size v xs) (hne : ∀ k, v.ownBlock = some k → k ≠ g) : OwnC enc W B e size v xs := by
  refine ⟨ho.1, ?_⟩
  rcases ho.2 with h0 | ⟨b, cap, cur, h1, h2, h3, h4⟩
  · exact .inl h0
  · refine .inr ⟨b, cap, cur, h1, h2, (h.2 b (Array.getElem?_eq_some_iff.1 h3).1 (hne b ?_)).trans h3, h4⟩
    rw [h1]
    rfl
/-- The slice v is a row of n elements of size cells each; so many cells are marked so far; below B the world is as w, and so is every block but the row's. -/
def MRow (f : Nat → Nat → Value) (k : Nat) (w : World) (B e size g n cap : Nat) (W : World) (m : Nat) : Prop := (∃ L, W.ownsRow B e size (.slice (some ⟨g, 0, none⟩) n cap) n L ∧ Marked f k L m) ∧ Below B w W ∧ B ≤ w.heap.size ∧ Keep g w W
theorem MRow.on {f : Nat → Nat → Value} {k B e size g n cap m : Nat} {w W W2 : World} (h : MRow f k w B e size g n cap W m) (hb : Below W.heap.size W W2) : MRow f k w B e size g n cap W2 m := by
  obtain ⟨⟨L, h1, h2⟩, h3, h4, h5⟩ := h
  exact ⟨⟨L, ownsRow_on h1 hb, h2⟩, h3.trans (hb.mono (Nat.le_trans h4 h3.size)), h4, h5.on hb⟩
theorem MRow.put {f : Nat → Nat → Value} {k B e size g n cap m : Nat} {w W : World} (h : MRow f k w B e size g n cap W m) (hm : m < n * size) {u : Value} (hu : u = f m (k + m)) : MRow f k w B e size g n cap (W.setCell ⟨g, m, none⟩ u) (m + 1) := by
  obtain ⟨⟨L, h1, h2⟩, h3, h4, h5⟩ := h
  exact ⟨⟨L.set m u, (h1.stored m u).1, h2.step (by rw [h1.1]; exact hm) hu⟩, h3.setCell (p := ⟨g, m, none⟩) (h1.lt g rfl).1 u, h4, h5.put m u⟩
theorem MRow.there {f : Nat → Nat → Value} {k B e size g n cap m : Nat} {w W : World} (h : MRow f k w B e size g n cap W m) {q : Nat} (hq : q < n * size) : (∃ u, W.cell? ⟨g, q, none⟩ = some u) ∧ W.frozen? ⟨g, q, none⟩ = false := by
  obtain ⟨⟨L, h1, h2⟩, _⟩ := h
  refine ⟨?_, h1.frozenAt q⟩
  rw [h1.cellAt q hq]
  exact ⟨L[q]'(by rw [h1.1]; exact hq), List.getElem?_eq_getElem _⟩
theorem MRow.cell {f : Nat → Nat → Value} {k B e size g n cap m : Nat} {w W : World} (h : MRow f k w B e size g n cap W m) {q : Nat} (hq : q < n * size) (hm : q < m) : W.cell? ⟨g, q, none⟩ = some (f q (k + q)) := by
  obtain ⟨⟨L, h1, h2⟩, _⟩ := h
  rw [h1.cellAt q hq]
  exact h2 q hm
theorem MRow.lt {f : Nat → Nat → Value} {k B e size g n cap m : Nat} {w W : World} (h : MRow f k w B e size g n cap W m) : B ≤ g ∧ g < W.heap.size := by
  obtain ⟨⟨L, h1, h2⟩, _⟩ := h
  exact h1.lt g rfl
/-- The slice v of n elements is marked from k on. -/
def MOwn (f : Nat → Nat → Value) (k : Nat) (B e size : Nat) (v : Value) (n : Nat) (W : World) : Prop := ∃ p cap, v = .slice p n cap ∧ (n = 0 ∨ ∃ g w, p = some ⟨g, 0, none⟩ ∧ MRow f k w B e size g n cap W (n * size))
theorem MOwn.on {f : Nat → Nat → Value} {k B e size n : Nat} {v : Value} {W W2 : World} (h : MOwn f k B e size v n W) (hb : Below W.heap.size W W2) : MOwn f k B e size v n W2 := by
  obtain ⟨p, cap, h1, h2⟩ := h
  refine ⟨p, cap, h1, ?_⟩
  rcases h2 with h0 | ⟨g, w, hp, hM⟩
  · exact .inl h0
  · exact .inr ⟨g, w, hp, hM.on hb⟩
end Go.Proofs.Ytafdjjdmcnlddaa

namespace Go.Proofs.Ytafdjjdmcnlddaa
set_option linter.unusedSimpArgs false
set_option linter.unusedVariables false
open Go.RowKit

end Go.Proofs.Ytafdjjdmcnlddaa

namespace Go.Proofs.Ytafdjjdmcnlddaa
set_option linter.unusedSimpArgs false
set_option linter.unusedVariables false
open Go.RowKit

theorem arr_below {w w1 : World} {b t : Nat} {cs : List Value} (h : Arr w b t cs) (hb : Below w.heap.size w w1) : Arr w1 b t cs := by
  have hlt : b < w.heap.size := by
    rcases Nat.lt_or_ge b w.heap.size with h1 | h1
    · exact h1
    · unfold Arr at h; rw [Array.getElem?_eq_none h1] at h; cases h
  exact (hb.block b hlt).trans h
def cellAt (W : World) (b i : Nat) : Value := (W.cell? ⟨b, i, none⟩).getD (.bool false)
end Go.Proofs.Ytafdjjdmcnlddaa

namespace Go.Proofs.Ytafdjjdmcnlddaa
set_option linter.unusedSimpArgs false
set_option linter.unusedVariables false

end Go.Proofs.Ytafdjjdmcnlddaa

namespace Go.Proofs.Ytafdjjdmcnlddaa
set_option linter.unusedSimpArgs false
set_option linter.unusedVariables false
open Go.RowKit

/-- v holds the bytes l, in a block from B on; up to its capacity the cells are there and may be written. -/
def OwnB (w : World) (B : Nat) (v : Value) (l : List UInt8) : Prop := ∃ g cap, v = .slice (some ⟨g, 0, none⟩) l.length cap ∧ B ≤ g ∧ g < w.heap.size ∧ l.length ≤ cap ∧
  (∀ j (h : j < l.length), w.cell? ⟨g, j, none⟩ = some (byteV l[j])) ∧ ∀ j, j < cap → (w.cell? ⟨g, j, none⟩).isSome = true ∧ w.frozen? ⟨g, j, none⟩ = false
theorem OwnB.kept {w w' : World} {B B' : Nat} {v : Value} {l : List UInt8} (h : OwnB w B v l) (hb : Below B' w w') (hB : w.heap.size ≤ B') : OwnB w' B v l := by
  obtain ⟨g, cap, h1, h2, h3, h4, h5, h6⟩ := h
  have hg : g < B' := Nat.lt_of_lt_of_le h3 hB
  exact ⟨g, cap, h1, h2, Nat.lt_of_lt_of_le h3 hb.size, h4, fun j hj => (hb.cell (p := ⟨g, j, none⟩) hg).trans (h5 j hj), fun j hj => by rw [hb.cell (p := ⟨g, j, none⟩) hg, hb.frozen (p := ⟨g, j, none⟩) hg]; exact h6 j hj⟩
theorem OwnB.alloc {w : World} {B : Nat} {v : Value} {l : List UInt8} (h : OwnB w B v l) (o : Obj) : OwnB (w.alloc o) B v l := h.kept ((Below.refl w.heap.size w).alloc (Nat.le_refl _) o) (Nat.le_refl _)
theorem OwnB.mono {w : World} {B B' : Nat} {v : Value} {l : List UInt8} (h : OwnB w B v l) (hB : B' ≤ B) : OwnB w B' v l := by
  obtain ⟨g, cap, h1, h2, h3⟩ := h
  exact ⟨g, cap, h1, Nat.le_trans hB h2, h3⟩
end Go.Proofs.Ytafdjjdmcnlddaa

namespace Go.Proofs.Ytafdjjdmcnlddaa
set_option linter.unusedSimpArgs false
set_option linter.unusedVariables false
open Go.RowKit

/-- Block g holds the bytes l, and may be written. -/
def BAt (w : World) (g cap : Nat) (l : List UInt8) : Prop := l.length ≤ cap ∧ g < w.heap.size ∧ (∀ j (h : j < l.length), w.cell? ⟨g, j, none⟩ = some (byteV l[j])) ∧
  ∀ j, j < cap → (w.cell? ⟨g, j, none⟩).isSome = true ∧ w.frozen? ⟨g, j, none⟩ = false
theorem BAt.put {w : World} {g cap : Nat} {l : List UInt8} (h : BAt w g cap l) {i : Nat} (hi : i < l.length) (b : UInt8) : BAt (w.setCell ⟨g, i, none⟩ (byteV b)) g cap (l.set i b) := by
  obtain ⟨h1, h2, h3, h4⟩ := h
  have hc : ∀ j, j < cap → (w.setCell ⟨g, i, none⟩ (byteV b)).cell? ⟨g, j, none⟩ = if j = i then some (byteV b) else w.cell? ⟨g, j, none⟩ := by
    intro j hj
    by_cases e : j = i
    · subst e
      rw [if_pos rfl]
      exact World.cell?_setCell_same w ⟨g, j, none⟩ _ (h3 j hi)
    · rw [if_neg e]
      exact World.cell?_setCell_other w ⟨g, i, none⟩ ⟨g, j, none⟩ _ (fun h => by simp at h <;> exact e h)
  refine ⟨by simpa using h1, by simpa [World.setCell] using h2, fun j hj => ?_, fun j hj => ⟨?_, ?_⟩⟩
  · have hj' : j < l.length := by simpa using hj
    rw [hc j (by omega)]
    by_cases e : j = i
    · subst e
      rw [if_pos rfl]
      simp
    · rw [if_neg e, h3 j hj', List.getElem_set_ne (Ne.symm e)]
  · rw [hc j hj]
    split
    · rfl
    · exact (h4 j hj).1
  · rw [World.frozen?_setCell]
    exact (h4 j hj).2
end Go.Proofs.Ytafdjjdmcnlddaa

namespace Go.Proofs.Ytafdjjdmcnlddaa
set_option linter.unusedSimpArgs false
set_option linter.unusedVariables false
open Go.RowKit

end Go.Proofs.Ytafdjjdmcnlddaa

namespace Go.Proofs.Ytafdjjdmcnlddaa
set_option linter.unusedSimpArgs false
set_option linter.unusedVariables false
open Go.RowKit

end Go.Proofs.Ytafdjjdmcnlddaa

namespace Go.Proofs.Ytafdjjdmcnlddaa
set_option linter.unusedSimpArgs false
set_option linter.unusedVariables false
open Go.RowKit

end Go.Proofs.Ytafdjjdmcnlddaa

namespace Go.Proofs.Ytafdjjdmcnlddaa
open Go.RowKit



end Go.Proofs.Ytafdjjdmcnlddaa
