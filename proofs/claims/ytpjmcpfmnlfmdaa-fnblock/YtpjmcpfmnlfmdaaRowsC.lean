/- Rows of structs that a call makes: each element gives some cells. -/
import Derived.Test.YtpjmcpfmnlfmdaaChecked
import Derived.Test.YtpjmcpfmnlfmdaaMath
import Derived.WalkSmall
import Derived.Lib.SmallJoins
namespace Go.Proofs.Ytpjmcpfmnlfmdaa
set_option linter.unusedSimpArgs false
set_option linter.unusedVariables false
open Go.RowKit

theorem arr_keep {B : Nat} {w w' : World} {g t : Nat} {cs : List Value} (h : Arr w g t cs) (hb : Below B w w') (hg : g < B) : Arr w' g t cs := (hb.block g hg).trans h
/-- The slice v, which the call has made, holds these elements. -/
def OwnC {α : Type} (enc : α → List Value) (w : World) (B e size : Nat) (v : Value) (xs : List α) : Prop := w.ownsRow B e size v xs.length (xs.flatMap enc)
theorem ownC_nil {α : Type} (enc : α → List Value) (w : World) (B e size : Nat) : OwnC enc w B e size (.slice none 0 0) [] := World.ownsRow_nil _ _ _ _
theorem OwnC.alloc {α : Type} {enc : α → List Value} {w : World} {B e size : Nat} {v : Value} {xs : List α} (h : OwnC enc w B e size v xs) (o : Obj) : OwnC enc (w.alloc o) B e size v xs := World.ownsRow.alloc h o
theorem OwnC.drew {α : Type} {enc : α → List Value} {w : World} {B e size : Nat} {v : Value} {xs : List α} (h : OwnC enc w B e size v xs) : OwnC enc w.drew B e size v xs := h
theorem OwnC.low {α : Type} {enc : α → List Value} {w : World} {B e size : Nat} {v : Value} {xs : List α} (h : OwnC enc w B e size v xs) {a : Addr} (ha : a.block < B) (u : Value) : OwnC enc (w.setCell a u) B e size v xs := ownsRow_setCell_below h ha u
theorem ownsRow_on {w w' : World} {B e size n : Nat} {v : Value} {xs : List Value} (h : w.ownsRow B e size v n xs) (hb : Below w.heap.size w w') : w'.ownsRow B e size v n xs := by
  refine ⟨h.1, ?_⟩
  rcases h.2 with h0 | ⟨g, cap, cur, h1, h2, h3, h4⟩
  · exact .inl h0
  · have hlt : g < w.heap.size := (Array.getElem?_eq_some_iff.1 h3).1
    exact .inr ⟨g, cap, cur, h1, h2, (hb.block g hlt).trans h3, h4⟩
theorem OwnC.on {α : Type} {enc : α → List Value} {w w' : World} {B e size : Nat} {v : Value} {xs : List α} (h : OwnC enc w B e size v xs) (hb : Below w.heap.size w w') : OwnC enc w' B e size v xs := ownsRow_on h hb
theorem OwnC.mono {α : Type} {enc : α → List Value} {w : World} {B B' e size : Nat} {v : Value} {xs : List α} (h : OwnC enc w B e size v xs) (hB : B' ≤ B) : OwnC enc w B' e size v xs := by
  refine ⟨h.1, ?_⟩
  rcases h.2 with h0 | ⟨g, cap, cur, h1, h2, h3⟩
  · exact .inl h0
  · exact .inr ⟨g, cap, cur, h1, Nat.le_trans hB h2, h3⟩
theorem OwnC.base {α : Type} {enc : α → List Value} {w : World} {B e size : Nat} {v : Value} {xs : List α} (h : OwnC enc w B e size v xs) : ∀ k, v.ownBlock = some k → B ≤ k := own_base h
theorem flat_len {α : Type} {enc : α → List Value} {size : Nat} (hlen : ∀ x, (enc x).length = size) (xs : List α) : (xs.flatMap enc).length = xs.length * size := by
  induction xs with
  | nil => simp
  | cons x xs ih => rw [List.flatMap_cons, List.length_append, hlen, ih, List.length_cons, Nat.add_mul, Nat.one_mul, Nat.add_comm]
theorem flat_at {α : Type} {enc : α → List Value} {size : Nat} (hlen : ∀ x, (enc x).length = size) : ∀ (xs : List α) (i j : Nat) (hi : i < xs.length), j < size → (xs.flatMap enc)[i * size + j]? = (enc xs[i])[j]?
  | x :: xs, 0, j, hi, hj => by
    rw [List.flatMap_cons, Nat.zero_mul, Nat.zero_add, List.getElem?_append_left (by rw [hlen]; exact hj)]
    rfl
  | x :: xs, i + 1, j, hi, hj => by
    rw [List.flatMap_cons, List.getElem?_append_right (by rw [hlen, Nat.add_mul, Nat.one_mul]; omega), hlen, show (i + 1) * size + j - size = i * size + j by rw [Nat.add_mul, Nat.one_mul]; omega]
    exact flat_at hlen xs i j (by simpa using hi) hj
/-- append(v, y). -/
theorem app_C {α : Type} {enc : α → List Value} {e size bytes T : Nat} {z : Value} (hone : ∀ x, ∀ u ∈ enc x, u.oneCell' = true) (hlen : ∀ x, (enc x).length = size)
    (hT : Try.prog.underlying T = some (.slice e)) (hinfo : (Try.prog.info? e).map (fun i => (i.zero, i.size, i.bytes)) = some (some z, size, bytes)) (hzs : z.cells.size = size) (hsz : 0 < size) (hby : bytes ≤ 1000)
    (w : World) {ops : Array Oper} {rest : List Oper} {o : Oper} {a : Act} {Q : Exit → Act → World → Prop} (hgd : o.guard = none) (s x : Operand)
    (ho : o.op = Op.call { callee := Callee.builtin Builtin.append, args := #[s, x], argTypes := #[T, T] })
    (B : Nat) (v : Value) (xs : List α) (hs : a.eval s = v) (hown : OwnC enc w B e size v xs) (g : Nat) (y : α) (hx : a.eval x = .slice (some ⟨g, 0, none⟩) 1 1) (hA : Arr w g e (enc y)) (hmax : xs.length ≤ 10000000) (hB : B ≤ w.heap.size)
    (h : ∀ v' w', OwnC enc w' B e size v' (xs ++ [y]) → w.grownBy w' v.ownBlock → wpList Try.prog ops Q rest (a.put o.dst v') w') : wpList Try.prog ops Q (o :: rest) a w := by
  obtain ⟨i0, hi, hz0, hz1, hz2⟩ := info_parts hinfo
  have hmul : (xs.length + 1) * bytes ≤ 10000001 * 1000 := Nat.mul_le_mul (by omega) hby
  refine wpList_append_own w hgd s x T ho B e i0 z size bytes hT hi hz0 hz1 hz2 hzs hsz v xs.length (xs.flatMap enc) hs hown ⟨g, 0, none⟩ 1 1 (enc y) hx (by rw [hlen, Nat.one_mul]) (fun j u hj => ?_) (hone y) (by unfold maxLen; omega) (by omega) hB (fun v' w' h1 h2 _ => h v' w' ?_ h2)
  · rw [show (⟨g, 0, none⟩ : Addr).add j = ⟨g, j, none⟩ by unfold Addr.add; split <;> simp_all, hA.cell]
    exact hj
  · unfold OwnC
    rw [List.length_append, List.flatMap_append]
    simpa using h1
/-- The cells of element i. -/
theorem OwnC.cell {α : Type} {enc : α → List Value} {w : World} {B e size g n cap : Nat} {xs : List α} (hlen : ∀ x, (enc x).length = size) (h : OwnC enc w B e size (.slice (some ⟨g, 0, none⟩) n cap) xs) (i j : Nat) (hi : i < xs.length) (hj : j < size) :
    w.cell? ⟨g, i * size + j, none⟩ = (enc xs[i])[j]? := by
  have h1 := flat_at hlen xs i j hi hj
  obtain ⟨u, hu⟩ : ∃ u, (enc xs[i])[j]? = some u := ⟨(enc xs[i])[j]'(by rw [hlen]; exact hj), List.getElem?_eq_getElem _⟩
  rw [hu] at h1 ⊢
  have := World.ownsRow.cells h (g := g) rfl (i * size + j) u h1
  rw [show (⟨g, 0, none⟩ : Addr).add (i * size + j) = ⟨g, i * size + j, none⟩ by unfold Addr.add; split <;> simp_all] at this
  exact this
/-- A slice from the head of a block, which holds these elements. -/
def RowC {α : Type} (enc : α → List Value) (size : Nat) (w : World) (p : Option Addr) (xs : List α) : Prop := xs ≠ [] → ∃ g, p = some ⟨g, 0, none⟩ ∧ g < w.heap.size ∧ ∀ i (h : i < xs.length) j, j < size → w.cell? ⟨g, i * size + j, none⟩ = (enc xs[i])[j]?
theorem RowC.on {α : Type} {enc : α → List Value} {size : Nat} {w w' : World} {p : Option Addr} {xs : List α} (h : RowC enc size w p xs) (hb : Below w.heap.size w w') : RowC enc size w' p xs := by
  intro hx
  obtain ⟨g, h1, h2, h3⟩ := h hx
  exact ⟨g, h1, Nat.lt_of_lt_of_le h2 hb.size, fun i hi j hj => (hb.cell (p := ⟨g, i * size + j, none⟩) h2).trans (h3 i hi j hj)⟩
theorem OwnC.row {α : Type} {enc : α → List Value} {w : World} {B e size : Nat} {v : Value} {xs : List α} (hlen : ∀ x, (enc x).length = size) (h : OwnC enc w B e size v xs) : ∃ p cap, v = .slice p xs.length cap ∧ RowC enc size w p xs := by
  rcases h.2 with ⟨h0, h1⟩ | ⟨g, cap, cur, h1, h2, h3, h4⟩
  · refine ⟨none, 0, by rw [h0, h1], fun hx => ?_⟩
    exact absurd (List.eq_nil_of_length_eq_zero h1) hx
  · subst h1
    exact ⟨some ⟨g, 0, none⟩, cap, rfl, fun _ => ⟨g, rfl, (Array.getElem?_eq_some_iff.1 h3).1, fun i hi j hj => OwnC.cell hlen h i j hi hj⟩⟩
end Go.Proofs.Ytpjmcpfmnlfmdaa
