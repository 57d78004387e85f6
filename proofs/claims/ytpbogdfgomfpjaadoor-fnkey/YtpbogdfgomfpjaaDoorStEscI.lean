/- What impl.Escape answers. -/
import Derived.Test.YtpbogdfgomfpjaaDoorStRows
namespace Go.Proofs.YtpbogdfgomfpjaaDoor
set_option linter.unusedSimpArgs false
set_option linter.unusedVariables false
open Go.RowKit Go.Maps

/-- What stands at each round of Escape: the map at M, the iterator at it, the parts from it + 1 on. -/
def EscW (w : World) (s : ByteArray) (M it pos : Nat) (v : Value) (ps : List ByteArray) (W : World) : Prop :=
  W.ownsMap Tryd.prog 21 formElem M 5 formsD ∧ W.heap[it]? = some (.stringIter s pos) ∧ OwnS W (it + 1) v ps ∧ Below w.heap.size w W
theorem EscW.grow {w : World} {s : ByteArray} {M it pos : Nat} {v v' : Value} {ps ps' : List ByteArray} {W W' : World} {row : Option Nat} (h : EscW w s M it pos v ps W) (hM : M < it) (hw : w.heap.size ≤ it) (hg : W.grownBy W' row) (hr : ∀ k, row = some k → it < k) (ho : OwnS W' (it + 1) v' ps') : EscW w s M it pos v' ps' W' := by
  have hne : ∀ b, b ≤ it → some b ≠ row := fun b hb e => by have := hr b e.symm; omega
  have hlt : it < W.heap.size := (Array.getElem?_eq_some_iff.1 h.2.1).1
  exact ⟨h.1.kept hg (hne M (by omega)), (hg.block it hlt (hne it (Nat.le_refl _))).trans h.2.1, ho, h.2.2.2.grown hg h.2.2.2.size (fun k hk => by have := hr k hk; omega)⟩
theorem EscW.alloc {w : World} {s : ByteArray} {M it pos : Nat} {v : Value} {ps : List ByteArray} {W : World} (h : EscW w s M it pos v ps W) (hM : M < it) (hw : w.heap.size ≤ it) (o : Obj) : EscW w s M it pos v ps (W.alloc o) :=
  h.grow hM hw (World.grownBy_alloc W o none) (fun k hk => by cases hk) (h.2.2.1.alloc o)
theorem EscW.drew {w : World} {s : ByteArray} {M it pos : Nat} {v : Value} {ps : List ByteArray} {W : World} (h : EscW w s M it pos v ps W) : EscW w s M it pos v ps W.drew := ⟨h.1, h.2.1, h.2.2.1, h.2.2.2.drew⟩
theorem EscW.step {w : World} {s : ByteArray} {M it pos : Nat} {v : Value} {ps : List ByteArray} {W : World} (h : EscW w s M it pos v ps W) (hM : M < it) (hw : w.heap.size ≤ it) (p : Nat) : EscW w s M it p v ps (W.iterAt it s p) :=
  ⟨ownsMap_iterAt h.1 (by omega) s p, Lib.iterAt_heap W it s pos p h.2.1, h.2.2.1.iterAt (Nat.lt_succ_self _) s p, Lib.below_iterAt h.2.2.2 hw s p⟩
theorem iter_pos {w : World} {s : ByteArray} {M it pos : Nat} {v : Value} {ps : List ByteArray} {W : World} (h : EscW w s M it pos v ps W) : W.iterPos it = pos := by simp only [World.iterPos, h.2.1]
theorem take_flat (s : ByteArray) (i j : Nat) (hij : i ≤ j) (hj : j ≤ s.size) (hno : ∀ k (h : k < s.size), i ≤ k → k < j → markB s[k].toNat = false) : escL (s.data.toList.take j) = escL (s.data.toList.take i) ++ (s.extract i j).data.toList := by
  rw [ext_toList s i j hij hj]
  have e : s.data.toList.take j = s.data.toList.take i ++ (s.data.toList.take j).drop i := by
    have := List.take_append_drop i (s.data.toList.take j)
    rw [List.take_take, Nat.min_eq_left hij] at this
    exact this.symm
  rw [e, escL_append, ← e]
  congr 1
  apply escL_none
  intro c hc
  obtain ⟨k, hk, rfl⟩ := List.getElem_of_mem hc
  simp only [List.getElem_drop, List.getElem_take]
  have hk' : i + k < j := by simp at hk; omega
  exact hno (i + k) (by omega) (by omega) hk'
theorem two_at (w : World) (a b : ByteArray) (t : Nat) : ∀ j (h : j < [a, b].length), (w.alloc (.cells #[.string a, .string b] t)).cell? ⟨w.heap.size, j, none⟩ = some (.string [a, b][j]) := by
  intro j h
  rw [(Arr.fresh w t [.string a, .string b]).cell]
  match j, h with
  | 0, _ => rfl
  | 1, _ => rfl
theorem one_at' (w : World) (a : ByteArray) (t : Nat) : ∀ j (h : j < [a].length), (w.alloc (.cells #[.string a] t)).cell? ⟨w.heap.size, j, none⟩ = some (.string [a][j]) := by
  intro j h
  match j, h with
  | 0, _ => exact one_at w a t
end Go.Proofs.YtpbogdfgomfpjaaDoor
