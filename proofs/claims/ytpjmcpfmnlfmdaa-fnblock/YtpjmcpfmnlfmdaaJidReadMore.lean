/- An address is read from its text, also in upper case. -/
import Derived.Test.YtpjmcpfmnlfmdaaJidReadS
namespace Go.Proofs.Ytpjmcpfmnlfmdaa
set_option linter.unusedSimpArgs false
set_option linter.unusedVariables false
open Go.RowKit

theorem dom_no {c : UInt8} (h : domC c.toNat = true) : c ≠ 47 ∧ c ≠ 64 ∧ lowC c = c := by
  have hk : ∀ x : Fin 256, domC (UInt8.ofNat x.val).toNat = true → UInt8.ofNat x.val ≠ 47 ∧ UInt8.ofNat x.val ≠ 64 ∧ lowC (UInt8.ofNat x.val) = UInt8.ofNat x.val := by decide +kernel
  have := hk ⟨c.toNat, c.toNat_lt⟩
  simp only [UInt8.ofNat_toNat] at this
  exact this h
theorem loc_no {c : UInt8} (h : locC c.toNat = true) : c ≠ 47 ∧ c ≠ 64 ∧ lowC c = c := by
  have hk : ∀ x : Fin 256, locC (UInt8.ofNat x.val).toNat = true → UInt8.ofNat x.val ≠ 47 ∧ UInt8.ofNat x.val ≠ 64 ∧ lowC (UInt8.ofNat x.val) = UInt8.ofNat x.val := by decide +kernel
  have := hk ⟨c.toNat, c.toNat_lt⟩
  simp only [UInt8.ofNat_toNat] at this
  exact this h
theorem part_all {ok : Nat → Bool} {s : ByteArray} (h : partB ok s = true) : ∀ x ∈ s.data.toList, ok x.toNat = true := by
  unfold partB allC at h
  simp only [Bool.and_eq_true, List.all_eq_true] at h
  exact h.2
theorem list_ne {s : ByteArray} (h : 0 < s.size) : s.data.toList.isEmpty = false := by
  have := not_empty h
  rwa [ByteArray.toList_eq] at this
theorem map_same {f : UInt8 → UInt8} {L : List UInt8} (h : ∀ x ∈ L, f x = x) : L.map f = L := (List.map_congr_left (g := id) h).trans (List.map_id L)
/-- What stands before the first slash of a valid address's text. -/
def headJ (l d : ByteArray) : List UInt8 := if l.size = 0 then d.data.toList else l.data.toList ++ 64 :: d.data.toList
theorem textJ_form (l d r : ByteArray) : (jidT l d r).data.toList = headJ l d ++ (if r.size = 0 then [] else 47 :: r.data.toList) := by
  unfold jidT headJ
  rw [strOf_data, flat_five]
  rcases Nat.eq_zero_or_pos l.size with h1 | h1 <;> rcases Nat.eq_zero_or_pos r.size with h2 | h2
  · rw [mark_none h1, mark_none h2, if_pos h1, if_pos h2]
    have z1 : l.data.toList = [] := List.eq_nil_of_length_eq_zero ((size_data l).trans h1)
    have z2 : r.data.toList = [] := List.eq_nil_of_length_eq_zero ((size_data r).trans h2)
    simp [z1, z2, empty_list]
  · rw [mark_none h1, mark_some h2, if_pos h1, if_neg (by omega)]
    have z1 : l.data.toList = [] := List.eq_nil_of_length_eq_zero ((size_data l).trans h1)
    simp [z1, empty_list, slS]
  · rw [mark_some h1, mark_none h2, if_neg (by omega), if_pos h2]
    have z2 : r.data.toList = [] := List.eq_nil_of_length_eq_zero ((size_data r).trans h2)
    simp [z2, empty_list, atS]
  · rw [mark_some h1, mark_some h2, if_neg (by omega), if_neg (by omega)]
    simp [atS, slS]
/-- A text that is, but for upper case before its first slash, that of a valid address is read as this address. -/
theorem read_upper {l d r : ByteArray} (h : jidB l d r = true) (P : List UInt8) (hP : P.map lowC = headJ l d) (hn : ∀ x ∈ P, x ≠ 47) :
    goodR (P ++ (if r.size = 0 then [] else 47 :: r.data.toList)) = true ∧ readL (P ++ (if r.size = 0 then [] else 47 :: r.data.toList)) = (l.data.toList, d.data.toList, r.data.toList) := by
  have h0 := h
  unfold jidB jidB' at h
  simp only [Bool.and_eq_true] at h
  obtain ⟨⟨hl, hd⟩, hr⟩ := h
  have hl' := part_all hl
  have hd' := part_all (domB_iff.1 hd).2.1
  have hlno : ∀ x ∈ l.data.toList, x ≠ 64 := fun x hx => (loc_no (hl' x hx)).2.1
  have hdno : ∀ x ∈ d.data.toList, x ≠ 64 := fun x hx => (dom_no (hd' x hx)).2.1
  have key : shapeL (P ++ (if r.size = 0 then [] else 47 :: r.data.toList)) = true ∧ readL (P ++ (if r.size = 0 then [] else 47 :: r.data.toList)) = (l.data.toList, d.data.toList, r.data.toList) := by
    unfold shapeL readL
    rcases Nat.eq_zero_or_pos r.size with h2 | h2
    · have z2 : r.data.toList = [] := List.eq_nil_of_length_eq_zero ((size_data r).trans h2)
      rw [if_pos h2, List.append_nil, cut_not hn, hP, z2]
      unfold headJ
      rcases Nat.eq_zero_or_pos l.size with h1 | h1
      · have z1 : l.data.toList = [] := List.eq_nil_of_length_eq_zero ((size_data l).trans h1)
        rw [if_pos h1, cut_not hdno, z1]
        exact ⟨rfl, rfl⟩
      · rw [if_neg (by omega), cut_app hlno]
        have n1 : l.data.toList.isEmpty = false := list_ne (by omega)
        refine ⟨?_, rfl⟩
        simp [n1]
    · have n2 : r.data.toList.isEmpty = false := list_ne (by omega)
      rw [if_neg (by omega), cut_app hn, hP]
      unfold headJ
      rcases Nat.eq_zero_or_pos l.size with h1 | h1
      · have z1 : l.data.toList = [] := List.eq_nil_of_length_eq_zero ((size_data l).trans h1)
        rw [if_pos h1, cut_not hdno, z1]
        refine ⟨?_, rfl⟩
        simp [n2]
      · rw [if_neg (by omega), cut_app hlno]
        have n1 : l.data.toList.isEmpty = false := list_ne (by omega)
        refine ⟨?_, rfl⟩
        simp [n1, n2]
  refine ⟨?_, key.2⟩
  unfold goodR
  rw [key.1, key.2]
  exact h0
theorem head_low {l d r : ByteArray} (h : jidB l d r = true) : (headJ l d).map lowC = headJ l d ∧ ∀ x ∈ headJ l d, x ≠ 47 := by
  unfold jidB jidB' at h
  simp only [Bool.and_eq_true] at h
  obtain ⟨⟨hl, hd⟩, hr⟩ := h
  have hl' := part_all hl
  have hd' := part_all (domB_iff.1 hd).2.1
  have hall : ∀ x ∈ headJ l d, x ≠ 47 ∧ lowC x = x := by
    intro x hx
    unfold headJ at hx
    split at hx
    · exact ⟨(dom_no (hd' x hx)).1, (dom_no (hd' x hx)).2.2⟩
    · rcases List.mem_append.1 hx with h1 | h1
      · exact ⟨(loc_no (hl' x h1)).1, (loc_no (hl' x h1)).2.2⟩
      · rcases List.mem_cons.1 h1 with rfl | h2
        · exact ⟨by decide, by decide⟩
        · exact ⟨(dom_no (hd' x h2)).1, (dom_no (hd' x h2)).2.2⟩
  exact ⟨map_same fun x hx => (hall x hx).2, fun x hx => (hall x hx).1⟩
/-- What JidRead answers at the text of a valid address in which letters before the first slash are in upper case. -/
theorem readV_upper {l d r : ByteArray} (h : jidB l d r = true) (P : List UInt8) (hP : P.map lowC = headJ l d) (hn : ∀ x ∈ P, x ≠ 47) :
    jidReadV (strOf (P ++ (if r.size = 0 then [] else 47 :: r.data.toList))) = jo l d r 0 := by
  obtain ⟨h1, h2⟩ := read_upper h P hP hn
  obtain ⟨b1, b2, b3⟩ := right_le h
  have hs : ¬ 20000 < (strOf (P ++ (if r.size = 0 then [] else 47 :: r.data.toList))).size := by
    rw [strOf_size, List.length_append, ← List.length_map (f := lowC), hP]
    have e1 : (headJ l d).length ≤ 61 := by
      unfold headJ
      split
      · rw [size_data]; omega
      · rw [List.length_append, List.length_cons, size_data, size_data]; omega
    have e2 : (if r.size = 0 then [] else 47 :: r.data.toList).length ≤ 31 := by
      split
      · simp
      · rw [List.length_cons, size_data]; omega
    omega
  unfold jidReadV
  rw [if_neg hs, strOf_data, if_pos h1, h2]
  rfl
theorem readV_text {l d r : ByteArray} (h : jidB l d r = true) : jidReadV (jidT l d r) = jo l d r 0 := by
  have h1 := readV_upper h (headJ l d) (head_low h).1 (head_low h).2
  rw [← textJ_form] at h1
  exact h1
theorem text_some {l d r : ByteArray} (h : jidB l d r = true) : 0 < (jidT l d r).size ∧ (jidT l d r).size ≤ 100 := by
  obtain ⟨b1, b2, b3⟩ := right_le h
  unfold jidB jidB' at h
  simp only [Bool.and_eq_true] at h
  have hd := (domB_iff.1 h.1.2).1
  unfold jidT
  rw [strOf_size, flat_five]
  simp only [List.length_append, size_data]
  have e1 := mark_le atS l (by decide)
  have e2 := mark_le slS r (by decide)
  omega
theorem readV_right (s : ByteArray) {l d r : ByteArray} (h : jidReadV s = jo l d r 0) : jidB l d r = true := by
  unfold jidReadV at h
  split at h
  · unfold jo at h; simp at h
  · split at h
    · rename_i hg
      unfold goodR at hg
      simp only [Bool.and_eq_true] at hg
      unfold jo at h
      simp at h
      obtain ⟨rfl, rfl, rfl⟩ := h
      exact hg.2
    · unfold jo at h; simp at h
end Go.Proofs.Ytpjmcpfmnlfmdaa
