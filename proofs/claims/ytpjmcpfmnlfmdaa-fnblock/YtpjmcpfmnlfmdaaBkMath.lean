/- Positions in rising texts; what impl.BlockAdd, impl.BlockDel answer. -/
import Derived.Test.YtpjmcpfmnlfmdaaBkRight
namespace Go.Proofs.Ytpjmcpfmnlfmdaa
set_option linter.unusedSimpArgs false
set_option linter.unusedVariables false
open Go.RowKit Go.Joins

/-- How many resources are less than r, from the first on. -/
def posT (r : ByteArray) : List ByteArray → Nat
  | [] => 0
  | x :: t => if Op.bytesLess x.toList r.toList then posT r t + 1 else 0
theorem posT_le (r : ByteArray) : ∀ xs, posT r xs ≤ xs.length
  | [] => Nat.le_refl _
  | x :: t => by
    unfold posT
    have := posT_le r t
    split
    · simp; omega
    · exact Nat.zero_le _
theorem posT_lo {r : ByteArray} : ∀ {xs : List ByteArray} {i : Nat} (hi : i < xs.length), i < posT r xs → Op.bytesLess xs[i].toList r.toList = true
  | x :: t, 0, _, h => by
    unfold posT at h
    split at h
    · assumption
    · exact absurd h (Nat.not_lt_zero _)
  | x :: t, i + 1, hi, h => by
    unfold posT at h
    split at h
    · exact posT_lo (xs := t) (by simpa using hi) (by omega)
    · exact absurd h (Nat.not_lt_zero _)
theorem posT_at {r : ByteArray} : ∀ {xs : List ByteArray} (h : posT r xs < xs.length), Op.bytesLess xs[posT r xs].toList r.toList = false
  | x :: t, h => by
    by_cases hx : Op.bytesLess x.toList r.toList = true
    · have e : posT r (x :: t) = posT r t + 1 := by show (if _ then _ else _) = _; rw [if_pos hx]
      have h' : posT r t < t.length := by rw [e] at h; simpa using h
      have := posT_at (xs := t) h'
      simp only [e, List.getElem_cons_succ]
      exact this
    · have e : posT r (x :: t) = 0 := by show (if _ then _ else _) = _; rw [if_neg hx]
      simp only [e, List.getElem_cons_zero]
      exact Bool.eq_false_iff.2 hx
theorem incT_all {xs : List ByteArray} (h : IncT xs xs.length) : ∀ (j i : Nat) (hj : j < xs.length) (hij : i < j), Op.bytesLess (xs[i]'(by omega)).toList xs[j].toList = true
  | 0, i, _, hij => absurd hij (Nat.not_lt_zero _)
  | j + 1, i, hj, hij => by
    have h1 := h (j + 1) hj (by omega) hj (by show j < xs.length; omega)
    simp only [Nat.add_sub_cancel] at h1
    by_cases e : i = j
    · subst e; exact h1
    · exact sl_trans _ _ _ (incT_all h j i (by omega) (by omega)) h1
theorem posT_hi {r : ByteArray} {xs : List ByteArray} (h : IncT xs xs.length) {i : Nat} (hi : i < xs.length) (hp : posT r xs ≤ i) : Op.bytesLess xs[i].toList r.toList = false := by
  have h0 := posT_at (r := r) (xs := xs) (by omega)
  by_cases e : i = posT r xs
  · subst e; exact h0
  · rw [Bool.eq_false_iff]
    intro hl
    have := sl_trans _ _ _ (incT_all h i (posT r xs) hi (by omega)) hl
    rw [h0] at this
    cases this
/-- Is there a session of this resource? -/
def hereT (r : ByteArray) (xs : List ByteArray) : Bool := match xs[posT r xs]? with
  | some x => x.toList == r.toList
  | none => false
theorem hereT_at {r : ByteArray} {xs : List ByteArray} (hp : posT r xs < xs.length) : hereT r xs = (xs[posT r xs].toList == r.toList) := by
  unfold hereT
  rw [List.getElem?_eq_getElem hp]
theorem hereT_end {r : ByteArray} {xs : List ByteArray} (hp : ¬ posT r xs < xs.length) : hereT r xs = false := by
  unfold hereT
  rw [List.getElem?_eq_none (by omega)]
/-- The only session of its resource is the one there. -/
theorem hereT_only {r : ByteArray} {xs : List ByteArray} (h : IncT xs xs.length) {i : Nat} (hi : i < xs.length) (he : xs[i].toList = r.toList) : i = posT r xs ∧ hereT r xs = true := by
  have h1 : posT r xs ≤ i := by
    rcases Nat.lt_or_ge i (posT r xs) with hl | hg
    · have := posT_lo hi hl
      rw [he, sl_self] at this
      cases this
    · exact hg
  have h2 : i = posT r xs := by
    rcases Nat.lt_or_ge (posT r xs) i with hl | hg
    · have hp : posT r xs < xs.length := by omega
      have := incT_all h i (posT r xs) hi hl
      rw [he, posT_at hp] at this
      cases this
    · omega
  refine ⟨h2, ?_⟩
  subst h2
  rw [hereT_at hi, he]
  exact beq_self_eq_true _
theorem hereT_lt {j : ByteArray} {xs : List ByteArray} (h : hereT j xs = true) : posT j xs < xs.length := by
  rcases Nat.lt_or_ge (posT j xs) xs.length with h1 | h1
  · exact h1
  · rw [hereT_end (by omega)] at h; cases h
theorem hereT_eq {j : ByteArray} {xs : List ByteArray} (h : hereT j xs = true) : xs[posT j xs]'(hereT_lt h) = j := by
  have h1 := hereT_at (hereT_lt h)
  rw [h] at h1
  have h2 : (xs[posT j xs]'(hereT_lt h)).toList = j.toList := by simpa using h1.symm
  rw [ByteArray.toList_eq, ByteArray.toList_eq] at h2
  exact ByteArray.ext (Array.ext' h2)
theorem hereT_any {j : ByteArray} {xs : List ByteArray} (hI : IncT xs xs.length) : (xs.any fun x => x.toList == j.toList) = hereT j xs := by
  cases h : hereT j xs
  · rw [List.any_eq_false]
    intro x hx
    obtain ⟨i, hi, rfl⟩ := List.mem_iff_getElem.1 hx
    intro he
    have := (hereT_only hI hi (by simpa using he)).2
    rw [h] at this
    cases this
  · rw [List.any_eq_true]
    exact ⟨xs[posT j xs]'(hereT_lt h), List.getElem_mem _, by rw [hereT_eq h]; exact beq_self_eq_true _⟩
theorem filter_out {j : ByteArray} {xs : List ByteArray} (hI : IncT xs xs.length) (h : hereT j xs = true) : xs.filter (fun x => !(x.toList == j.toList)) = xs.take (posT j xs) ++ xs.drop (posT j xs + 1) := by
  have hlt := hereT_lt h
  have heq := hereT_eq h
  have hsp : xs = xs.take (posT j xs) ++ xs[posT j xs] :: xs.drop (posT j xs + 1) := by
    rw [← List.drop_eq_getElem_cons hlt, List.take_append_drop]
  have hne : ∀ i (hi : i < xs.length), i ≠ posT j xs → (!(xs[i].toList == j.toList)) = true := by
    intro i hi hne
    cases he : xs[i].toList == j.toList
    · rfl
    · exact absurd (hereT_only hI hi (by simpa using he)).1 hne
  have h1 : (xs.take (posT j xs)).filter (fun x => !(x.toList == j.toList)) = xs.take (posT j xs) := by
    refine List.filter_eq_self.2 (fun a ha => ?_)
    obtain ⟨i, hi, rfl⟩ := List.mem_iff_getElem.1 ha
    rw [List.length_take] at hi
    rw [List.getElem_take]
    exact hne i (by omega) (by omega)
  have h2 : (xs.drop (posT j xs + 1)).filter (fun x => !(x.toList == j.toList)) = xs.drop (posT j xs + 1) := by
    refine List.filter_eq_self.2 (fun a ha => ?_)
    obtain ⟨i, hi, rfl⟩ := List.mem_iff_getElem.1 ha
    rw [List.length_drop] at hi
    rw [List.getElem_drop]
    exact hne _ (by omega) (by omega)
  conv => lhs; rw [hsp]
  rw [List.filter_append, h1, List.filter_cons, if_neg (by rw [heq]; simp), h2]
/-- An answer: texts, code. -/
structure BoL where
  l : List ByteArray
  c : Int
def illB (c : Int) : BoL := ⟨[], c⟩
noncomputable def addR (xs : List ByteArray) (j : ByteArray) : BoL :=
  if 400 < xs.length ∨ 20000 < j.size then illB 2 else if bkB xs = false ∨ addrB j = false then illB 1 else if hereT j xs = true then illB 7 else if 8 ≤ xs.length then illB 9
  else ⟨xs.take (posT j xs) ++ [j] ++ xs.drop (posT j xs), 0⟩
noncomputable def delR (xs : List ByteArray) (j : ByteArray) : BoL :=
  if 400 < xs.length ∨ 20000 < j.size then illB 2 else if bkB xs = false then illB 1 else if hereT j xs = false then illB 6
  else ⟨xs.take (posT j xs) ++ xs.drop (posT j xs + 1), 0⟩
/-- What impl.blockAt answers. -/
noncomputable def atT (xs : List ByteArray) (j : ByteArray) : Nat × Int :=
  if 400 < xs.length ∨ 20000 < j.size then (0, 2) else if bkB xs = false then (0, 1) else if hereT j xs = false then (posT j xs, 6) else (posT j xs, 0)
theorem bk_addr {xs : List ByteArray} {j : ByteArray} (hk : bkB xs = true) (h : hereT j xs = true) : addrB j = true := by
  have h1 := (bkB_iff.1 hk).2.2 _ (hereT_lt h) (hereT_lt h)
  rw [hereT_eq h] at h1
  exact h1
def BoIs (B : Nat) (R : BoL) (e : Ending) (W : World) : Prop := ∃ p k, e = .returned (.agg #[.slice p R.l.length k, .int .i64 R.c]) ∧ OwnC strC W B 9 1 (.slice p R.l.length k) R.l
theorem bo_ill (B : Nat) (c : Int) (W : World) : BoIs B (illB c) (.returned (.agg #[.slice none 0 0, .int .i64 c])) W := ⟨none, 0, rfl, ownC_nil _ _ _ _ _⟩
theorem passX {w W : World} {b : Nat} {R : BoL} {p : Option Addr} {k B : Nat} (hA : Arr W b 27 [.slice none 0 0, .int .i64 0]) (hb : Below w.heap.size w W) (hB : w.heap.size ≤ b) (hbB : b < B) (ho : OwnC strC W B 9 1 (.slice p R.l.length k) R.l) :
    Arr ((W.setCell ⟨b, 0, none⟩ (.slice p R.l.length k)).setCell ⟨b, 1, none⟩ (.int .i64 R.c)) b 27 [.slice p R.l.length k, .int .i64 R.c] ∧ OwnC strC ((W.setCell ⟨b, 0, none⟩ (.slice p R.l.length k)).setCell ⟨b, 1, none⟩ (.int .i64 R.c)) w.heap.size 9 1 (.slice p R.l.length k) R.l ∧ Below w.heap.size w ((W.setCell ⟨b, 0, none⟩ (.slice p R.l.length k)).setCell ⟨b, 1, none⟩ (.int .i64 R.c)) :=
  ⟨(hA.put 0 _).put 1 _, ((ho.low (a := ⟨b, 0, none⟩) hbB _).low (a := ⟨b, 1, none⟩) hbB _).mono (by omega), (hb.setCell (p := ⟨b, 0, none⟩) hB _).setCell (p := ⟨b, 1, none⟩) hB _⟩
theorem arrX_two {w : World} {b t : Nat} {a0 a1 : Value} (h : Arr w b t [a0, a1]) : (w.cell? ⟨b, 0, none⟩ = some a0 ∧ w.cell? ⟨b, 1, none⟩ = some a1) ∧ w.frozen? ⟨b, 0, none⟩ = false ∧ w.frozen? ⟨b, 1, none⟩ = false := ⟨⟨h.cell 0, h.cell 1⟩, h.free 0, h.free 1⟩
theorem arrX_lt {w : World} {b t : Nat} {cs : List Value} (h : Arr w b t cs) : b < w.heap.size := (Array.getElem?_eq_some_iff.1 h).1
theorem arrX_on {w w1 : World} {b t : Nat} {cs : List Value} (h : Arr w b t cs) (hb : Below w.heap.size w w1) : Arr w1 b t cs := (hb.block b (arrX_lt h)).trans h
end Go.Proofs.Ytpjmcpfmnlfmdaa
