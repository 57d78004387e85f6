/- A text put into a valid block list. -/
import Derived.Test.YtpjmcpfmnlfmdaaBkMath
namespace Go.Proofs.Ytpjmcpfmnlfmdaa
set_option linter.unusedSimpArgs false
set_option linter.unusedVariables false
open Go.RowKit Go.Joins

def insT (j : ByteArray) (xs : List ByteArray) : List ByteArray := xs.take (posT j xs) ++ [j] ++ xs.drop (posT j xs)
theorem insT_len (j : ByteArray) (xs : List ByteArray) : (insT j xs).length = xs.length + 1 := by
  unfold insT
  have := posT_le j xs
  simp only [List.length_append, List.length_take, List.length_drop, List.length_cons, List.length_nil]
  omega
theorem get_of {l : List ByteArray} {i : Nat} {a : ByteArray} (h : l[i]? = some a) (hi : i < l.length) : l[i] = a := by
  rw [List.getElem?_eq_getElem hi] at h
  exact Option.some.inj h
theorem insT_lo {j : ByteArray} {xs : List ByteArray} {i : Nat} (h : i < posT j xs) (h1 : i < (insT j xs).length) (h2 : i < xs.length) : (insT j xs)[i] = xs[i] := by
  refine get_of ?_ h1
  unfold insT
  rw [List.append_assoc, List.getElem?_append_left (by rw [List.length_take]; omega), List.getElem?_take, if_pos h, List.getElem?_eq_getElem h2]
theorem insT_at {j : ByteArray} {xs : List ByteArray} (h1 : posT j xs < (insT j xs).length) : (insT j xs)[posT j xs] = j := by
  refine get_of ?_ h1
  have hp := posT_le j xs
  have hl : (xs.take (posT j xs)).length = posT j xs := by rw [List.length_take]; omega
  unfold insT
  rw [List.append_assoc, List.getElem?_append_right (by omega), hl, Nat.sub_self]
  rfl
theorem insT_hi {j : ByteArray} {xs : List ByteArray} {i : Nat} (h : posT j xs ≤ i) (h1 : i + 1 < (insT j xs).length) (h2 : i < xs.length) : (insT j xs)[i + 1] = xs[i] := by
  refine get_of ?_ h1
  have hl : (xs.take (posT j xs)).length = posT j xs := by rw [List.length_take]; omega
  unfold insT
  rw [List.append_assoc, List.getElem?_append_right (by omega), hl, List.getElem?_append_right (by simp; omega), List.getElem?_drop]
  rw [show posT j xs + (i + 1 - posT j xs - [j].length) = i by simp only [List.length_cons, List.length_nil]; omega]
  exact List.getElem?_eq_getElem h2
theorem posT_eq {j : ByteArray} {ys : List ByteArray} {P : Nat} (hP : P < ys.length) (h1 : ∀ i (h : i < ys.length), i < P → Op.bytesLess ys[i].toList j.toList = true) (h2 : Op.bytesLess ys[P].toList j.toList = false) : posT j ys = P := by
  rcases Nat.lt_trichotomy (posT j ys) P with h | h | h
  · have h3 := posT_at (r := j) (xs := ys) (by omega)
    rw [h1 _ (by omega) h] at h3
    cases h3
  · exact h
  · rw [posT_lo hP h] at h2
    cases h2
theorem insT_pos (j : ByteArray) (xs : List ByteArray) : posT j (insT j xs) = posT j xs := by
  have hp := posT_le j xs
  refine posT_eq (by rw [insT_len]; omega) (fun i h hi => ?_) ?_
  · rw [insT_lo hi h (by omega)]
    exact posT_lo (by omega) hi
  · rw [insT_at]
    exact sl_self _
theorem insT_here (j : ByteArray) (xs : List ByteArray) : hereT j (insT j xs) = true := by
  have hp := posT_le j xs
  have h1 : posT j (insT j xs) < (insT j xs).length := by rw [insT_pos, insT_len]; omega
  have h2 : (insT j xs)[posT j (insT j xs)] = j := by
    have h3 := insT_at (j := j) (xs := xs) (by rw [insT_len]; omega)
    simp only [insT_pos]
    exact h3
  rw [hereT_at h1, h2]
  exact beq_self_eq_true _
theorem insT_out (j : ByteArray) (xs : List ByteArray) : (insT j xs).take (posT j xs) ++ (insT j xs).drop (posT j xs + 1) = xs := by
  have hp := posT_le j xs
  have hl : (xs.take (posT j xs)).length = posT j xs := by rw [List.length_take]; omega
  have e1 : (insT j xs).take (posT j xs) = xs.take (posT j xs) := by
    unfold insT
    rw [List.append_assoc, List.take_append_of_le_length (by omega), List.take_of_length_le (by omega)]
  have e2 : (insT j xs).drop (posT j xs + 1) = xs.drop (posT j xs) := by
    unfold insT
    rw [List.drop_append, List.drop_eq_nil_of_le (by simp only [List.length_append, hl, List.length_cons, List.length_nil]; omega)]
    simp [hl]
  rw [e1, e2, List.take_append_drop]
theorem insT_right {j : ByteArray} {xs : List ByteArray} (hk : bkB xs = true) (ha : addrB j = true) (hh : hereT j xs = false) (h8 : xs.length < 8) : bkB (insT j xs) = true := by
  obtain ⟨q1, q2, q3⟩ := bkB_iff.1 hk
  have hp := posT_le j xs
  have hlen := insT_len j xs
  refine bkB_true ⟨by omega, fun i hi h0 _ h' => ?_, fun i hi _ => ?_⟩
  · rcases Nat.lt_trichotomy i (posT j xs) with h | h | h
    · rw [insT_lo (by omega) h' (by omega), insT_lo h hi (by omega)]
      exact q2 i (by omega) h0 (by omega) (by omega)
    · subst h
      rw [insT_lo (by omega) h' (by omega), insT_at]
      exact posT_lo (by omega) (by omega)
    · obtain ⟨k, rfl⟩ : ∃ k, i = k + 1 := ⟨i - 1, by omega⟩
      have hkx : k < xs.length := by omega
      rw [insT_hi (by omega) hi hkx]
      simp only [Nat.add_sub_cancel]
      rcases Nat.lt_or_ge (posT j xs) k with h3 | h3
      · obtain ⟨m, rfl⟩ : ∃ m, k = m + 1 := ⟨k - 1, by omega⟩
        rw [insT_hi (by omega) (by omega) (by omega)]
        exact q2 (m + 1) hkx (by omega) hkx (by omega)
      · have hkp : k = posT j xs := by omega
        subst hkp
        rw [insT_at]
        have h4 := posT_at (r := j) (xs := xs) hkx
        cases h5 : Op.bytesLess j.toList (xs[posT j xs]).toList
        · have h6 := sl_eq _ _ h4 h5
          rw [hereT_at hkx, h6] at hh
          simp at hh
        · rfl
  · rcases Nat.lt_trichotomy i (posT j xs) with h | h | h
    · rw [insT_lo h hi (by omega)]
      exact q3 i (by omega) (by omega)
    · subst h
      rw [insT_at]
      exact ha
    · obtain ⟨k, rfl⟩ : ∃ k, i = k + 1 := ⟨i - 1, by omega⟩
      rw [insT_hi (by omega) hi (by omega)]
      exact q3 k (by omega) (by omega)
/-- Added and removed again, the list is as before. -/
theorem add_del {j : ByteArray} {xs : List ByteArray} (h : (addR xs j).c = 0) : (addR xs j).l = insT j xs ∧ bkB xs = true ∧ addrB j = true ∧ bkB (insT j xs) = true ∧ delR (insT j xs) j = ⟨xs, 0⟩ := by
  unfold addR illB at h ⊢
  by_cases h1 : 400 < xs.length ∨ 20000 < j.size
  · rw [if_pos h1] at h; cases h
  rw [if_neg h1] at h ⊢
  by_cases h2 : bkB xs = false ∨ addrB j = false
  · rw [if_pos h2] at h; cases h
  rw [if_neg h2] at h ⊢
  by_cases h3 : hereT j xs = true
  · rw [if_pos h3] at h; cases h
  rw [if_neg h3] at h ⊢
  by_cases h4 : 8 ≤ xs.length
  · rw [if_pos h4] at h; cases h
  rw [if_neg h4]
  have hk : bkB xs = true := by cases e : bkB xs with
    | true => rfl
    | false => exact absurd (.inl e) h2
  have ha : addrB j = true := by cases e : addrB j with
    | true => rfl
    | false => exact absurd (.inr e) h2
  have hh : hereT j xs = false := by simpa using h3
  have hi := insT_right hk ha hh (by omega)
  refine ⟨rfl, hk, ha, hi, ?_⟩
  unfold delR
  have hlen := insT_len j xs
  rw [if_neg (by omega), if_neg (by rw [hi]; decide), if_neg (by rw [insT_here]; decide), insT_pos, insT_out]
end Go.Proofs.Ytpjmcpfmnlfmdaa
