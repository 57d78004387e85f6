/- Sessions: their cells, their order. -/
import Derived.Test.YtpjmcpfmnlfmdaaChecked
import Derived.Test.YtpjmcpfmnlfmdaaRowsC
import Derived.WalkKit
import Derived.ProofKit
import Derived.OpenShut
import Derived.ShutString
import Derived.Lib.SmallJoins
import Derived.Deep.Slices
namespace Go.Proofs.Ytpjmcpfmnlfmdaa
set_option linter.unusedSimpArgs false
set_option linter.unusedVariables false
open Go.ChangeShapes Go.WideShapes Go.ChangeAt Go.RowKit Go.Joins

/-- A session: resource, on, priority, show. -/
structure SeL where
  r : ByteArray
  o : Bool
  p : Int
  s : ByteArray
instance : Inhabited SeL := ⟨⟨ByteArray.empty, false, 0, ByteArray.empty⟩⟩
def seC (x : SeL) : List Value := [.string x.r, .bool x.o, .int .i64 x.p, .string x.s]
def seV (x : SeL) : Value := .agg #[.string x.r, .bool x.o, .int .i64 x.p, .string x.s]
theorem seC_len (x : SeL) : (seC x).length = 4 := rfl
theorem seC_one (x : SeL) : ∀ u ∈ seC x, u.oneCell' = true := by
  intro u hu
  simp [seC] at hu
  rcases hu with rfl | rfl | rfl | rfl <;> rfl
/-- Strings and numbers as the machine has them. -/
def SeL.wf (x : SeL) : Prop := x.r.size ≤ maxLen ∧ (Lit.int .i64 x.p).wf = true ∧ x.s.size ≤ maxLen
theorem cellsStr9 : Try.prog.cellsOf 9 = 1 := by kernel_rfl
theorem cellsI649 : Try.prog.cellsOf 2 = 1 := by kernel_rfl
theorem cellsBo9 : Try.prog.cellsOf 4 = 1 := by kernel_rfl
/-- The elements of a slice that came in lie at a stretch of a block. -/
def RowA {α : Type} (enc : α → List Value) (size : Nat) (w : World) (p : Option Addr) (xs : List α) : Prop := xs ≠ [] → ∃ g o, p = some ⟨g, o, none⟩ ∧ g < w.heap.size ∧ ∀ i (h : i < xs.length) j, j < size → w.cell? ⟨g, o + (i * size + j), none⟩ = (enc xs[i])[j]?
theorem RowA.below {α : Type} {enc : α → List Value} {size : Nat} {w w' : World} {p : Option Addr} {xs : List α} (h : RowA enc size w p xs) (hb : Below w.heap.size w w') : RowA enc size w' p xs := by
  intro hx
  obtain ⟨g, o, h1, h2, h3⟩ := h hx
  exact ⟨g, o, h1, Nat.lt_of_lt_of_le h2 hb.size, fun i hi j hj => (hb.cell (p := ⟨g, o + (i * size + j), none⟩) h2).trans (h3 i hi j hj)⟩
def IncR (xs : List SeL) (n : Nat) : Prop := ∀ i (h : i < xs.length), 0 < i → i < n → ∀ h' : i - 1 < xs.length, Op.bytesLess xs[i - 1].r.toList xs[i].r.toList = true
open Classical in
noncomputable def incB (xs : List SeL) : Bool := decide (IncR xs xs.length)
theorem incB_true {xs : List SeL} (h : IncR xs xs.length) : incB xs = true := by unfold incB; simpa using h
theorem incB_false {xs : List SeL} (h : ¬ IncR xs xs.length) : incB xs = false := by unfold incB; simpa using h
theorem incB_iff {xs : List SeL} : incB xs = true ↔ IncR xs xs.length := by unfold incB; simp
theorem incR_zero (xs : List SeL) : IncR xs 1 := fun i _ h0 h1 => by omega
theorem incR_succ {xs : List SeL} {k : Nat} (h : IncR xs k) (hk : k < xs.length) (h1 : 0 < k → ∀ h' : k - 1 < xs.length, Op.bytesLess xs[k - 1].r.toList xs[k].r.toList = true) : IncR xs (k + 1) := by
  intro i hi h0 hlt h'
  by_cases e : i = k
  · subst e; exact h1 h0 h'
  · exact h i hi h0 (by omega) h'
theorem row_se4 {w : World} {p : Option Addr} {xs : List SeL} (h : RowC seC 4 w p xs) {i : Nat} (hi : i < xs.length) : ∃ g, p = some ⟨g, 0, none⟩ ∧ g < w.heap.size ∧ w.cell? ⟨g, i * 4, none⟩ = some (.string xs[i].r) ∧ w.cell? ⟨g, i * 4 + 1, none⟩ = some (.bool xs[i].o) ∧ w.cell? ⟨g, i * 4 + 2, none⟩ = some (.int .i64 xs[i].p) ∧ w.cell? ⟨g, i * 4 + 3, none⟩ = some (.string xs[i].s) := by
  obtain ⟨g, h1, h2, h3⟩ := h (List.ne_nil_of_length_pos (by omega))
  exact ⟨g, h1, h2, h3 i hi 0 (by decide), h3 i hi 1 (by decide), h3 i hi 2 (by decide), h3 i hi 3 (by decide)⟩

theorem sl_self : ∀ a : List UInt8, Op.bytesLess a a = false
  | [] => rfl
  | c :: a => by
    unfold Op.bytesLess
    rw [sl_self a]
    simp
theorem sl_both : ∀ a b : List UInt8, Op.bytesLess a b = true → Op.bytesLess b a = false
  | [], [], h => rfl
  | [], _ :: _, _ => rfl
  | _ :: _, [], h => by cases h
  | a :: x, b :: y, h => by
    have ih := sl_both x y
    unfold Op.bytesLess at h ⊢
    by_cases h1 : a < b
    · have h2 : ¬ b < a := UInt8.not_lt.2 (UInt8.le_of_lt h1)
      have h3 : (b == a) = false := beq_eq_false_iff_ne.2 (fun e => by subst e; exact h2 h1)
      simp [h2, h3]
    · by_cases h2 : b < a
      · have h3 : (a == b) = false := beq_eq_false_iff_ne.2 (fun e => by subst e; exact h1 h2)
        simp [h1, h3] at h
      · have h3 : a = b := UInt8.le_antisymm (UInt8.not_lt.1 h2) (UInt8.not_lt.1 h1)
        subst h3
        simp [h1] at h ⊢
        exact ih h
theorem sl_eq : ∀ a b : List UInt8, Op.bytesLess a b = false → Op.bytesLess b a = false → a = b
  | [], [], _, _ => rfl
  | [], _ :: _, h, _ => by cases h
  | _ :: _, [], _, h => by cases h
  | a :: x, b :: y, h, h' => by
    have ih := sl_eq x y
    unfold Op.bytesLess at h h'
    by_cases h1 : a < b
    · simp [h1] at h
    · by_cases h2 : b < a
      · simp [h2] at h'
      · have h3 : a = b := UInt8.le_antisymm (UInt8.not_lt.1 h2) (UInt8.not_lt.1 h1)
        subst h3
        simp [h1] at h h'
        rw [ih h h']
theorem sl_trans : ∀ a b c : List UInt8, Op.bytesLess a b = true → Op.bytesLess b c = true → Op.bytesLess a c = true
  | _, [], [], h, h' => by cases h'
  | [], [], _ :: _, h, _ => by cases h
  | _ :: _, [], _, h, _ => by cases h
  | [], _ :: _, [], _, h' => by cases h'
  | [], _ :: _, _ :: _, _, _ => rfl
  | _ :: _, _ :: _, [], _, h' => by cases h'
  | a :: x, b :: y, c :: z, h, h' => by
    have ih := sl_trans x y z
    unfold Op.bytesLess at h h' ⊢
    simp only [Bool.or_eq_true, decide_eq_true_eq, Bool.and_eq_true, beq_iff_eq] at h h' ⊢
    rcases h with h | ⟨rfl, h⟩
    · rcases h' with h' | ⟨rfl, h'⟩
      · exact .inl (UInt8.lt_trans h h')
      · exact .inl h
    · rcases h' with h' | ⟨rfl, h'⟩
      · exact .inl h'
      · exact .inr ⟨rfl, ih h h'⟩
/-- How many resources are less than r, from the first on. -/
def posS (r : ByteArray) : List SeL → Nat
  | [] => 0
  | x :: t => if Op.bytesLess x.r.toList r.toList then posS r t + 1 else 0
theorem pos_le (r : ByteArray) : ∀ xs, posS r xs ≤ xs.length
  | [] => Nat.le_refl _
  | x :: t => by
    unfold posS
    have := pos_le r t
    split
    · simp; omega
    · exact Nat.zero_le _
theorem pos_lo {r : ByteArray} : ∀ {xs : List SeL} {i : Nat} (hi : i < xs.length), i < posS r xs → Op.bytesLess xs[i].r.toList r.toList = true
  | x :: t, 0, _, h => by
    unfold posS at h
    split at h
    · assumption
    · exact absurd h (Nat.not_lt_zero _)
  | x :: t, i + 1, hi, h => by
    unfold posS at h
    split at h
    · exact pos_lo (xs := t) (by simpa using hi) (by omega)
    · exact absurd h (Nat.not_lt_zero _)
theorem pos_at {r : ByteArray} : ∀ {xs : List SeL} (h : posS r xs < xs.length), Op.bytesLess xs[posS r xs].r.toList r.toList = false
  | x :: t, h => by
    by_cases hx : Op.bytesLess x.r.toList r.toList = true
    · have e : posS r (x :: t) = posS r t + 1 := by show (if _ then _ else _) = _; rw [if_pos hx]
      have h' : posS r t < t.length := by rw [e] at h; simpa using h
      have := pos_at (xs := t) h'
      simp only [e, List.getElem_cons_succ]
      exact this
    · have e : posS r (x :: t) = 0 := by show (if _ then _ else _) = _; rw [if_neg hx]
      simp only [e, List.getElem_cons_zero]
      exact Bool.eq_false_iff.2 hx
theorem inc_all {xs : List SeL} (h : IncR xs xs.length) : ∀ (j i : Nat) (hj : j < xs.length) (hij : i < j), Op.bytesLess (xs[i]'(by omega)).r.toList xs[j].r.toList = true
  | 0, i, _, hij => absurd hij (Nat.not_lt_zero _)
  | j + 1, i, hj, hij => by
    have h1 := h (j + 1) hj (by omega) hj (by show j < xs.length; omega)
    simp only [Nat.add_sub_cancel] at h1
    by_cases e : i = j
    · subst e; exact h1
    · exact sl_trans _ _ _ (inc_all h j i (by omega) (by omega)) h1
theorem pos_hi {r : ByteArray} {xs : List SeL} (h : IncR xs xs.length) {i : Nat} (hi : i < xs.length) (hp : posS r xs ≤ i) : Op.bytesLess xs[i].r.toList r.toList = false := by
  have h0 := pos_at (r := r) (xs := xs) (by omega)
  by_cases e : i = posS r xs
  · subst e; exact h0
  · rw [Bool.eq_false_iff]
    intro hl
    have := sl_trans _ _ _ (inc_all h i (posS r xs) hi (by omega)) hl
    rw [h0] at this
    cases this
/-- Is there a session of this resource? -/
def hereB (r : ByteArray) (xs : List SeL) : Bool := match xs[posS r xs]? with
  | some x => x.r.toList == r.toList
  | none => false
theorem here_at {r : ByteArray} {xs : List SeL} (hp : posS r xs < xs.length) : hereB r xs = (xs[posS r xs].r.toList == r.toList) := by
  unfold hereB
  rw [List.getElem?_eq_getElem hp]
theorem here_end {r : ByteArray} {xs : List SeL} (hp : ¬ posS r xs < xs.length) : hereB r xs = false := by
  unfold hereB
  rw [List.getElem?_eq_none (by omega)]
/-- The only session of its resource is the one there. -/
theorem here_only {r : ByteArray} {xs : List SeL} (h : IncR xs xs.length) {i : Nat} (hi : i < xs.length) (he : xs[i].r.toList = r.toList) : i = posS r xs ∧ hereB r xs = true := by
  have h1 : posS r xs ≤ i := by
    rcases Nat.lt_or_ge i (posS r xs) with hl | hg
    · have := pos_lo hi hl
      rw [he, sl_self] at this
      cases this
    · exact hg
  have h2 : i = posS r xs := by
    rcases Nat.lt_or_ge (posS r xs) i with hl | hg
    · have hp : posS r xs < xs.length := by omega
      have := inc_all h i (posS r xs) hi hl
      rw [he, pos_at hp] at this
      cases this
    · omega
  refine ⟨h2, ?_⟩
  subst h2
  rw [here_at hi, he]
  exact beq_self_eq_true _
end Go.Proofs.Ytpjmcpfmnlfmdaa
