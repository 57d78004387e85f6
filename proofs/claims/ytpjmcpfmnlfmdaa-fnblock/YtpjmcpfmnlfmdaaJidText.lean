/- The text of an address: what impl.addressText, impl.JidText, spec.l03Text and spec.JidText answer. -/
import Derived.Test.YtpjmcpfmnlfmdaaJidSpec
import Derived.Test.YtpjmcpfmnlfmdaaJoinWalks
import Derived.Lib.SmallJoins
namespace Go.Proofs.Ytpjmcpfmnlfmdaa
set_option linter.unusedSimpArgs false
set_option linter.unusedVariables false
open Go.RowKit

def atS : ByteArray := ⟨#[64]⟩
def slS : ByteArray := ⟨#[47]⟩
def markOf (m x : ByteArray) : ByteArray := if x.size = 0 then ByteArray.empty else m
/-- The text of an address. -/
def jidT (l d r : ByteArray) : ByteArray := strOf (flat [l, markOf atS l, d, markOf slS r, r])
theorem flat_five (a b c d e : ByteArray) : flat [a, b, c, d, e] = a.data.toList ++ (b.data.toList ++ (c.data.toList ++ (d.data.toList ++ e.data.toList))) := by simp [flat]
theorem mark_none {m x : ByteArray} (h : x.size = 0) : markOf m x = ByteArray.empty := by unfold markOf; rw [if_pos h]
theorem mark_some {m x : ByteArray} (h : 0 < x.size) : markOf m x = m := by unfold markOf; rw [if_neg (by omega)]
theorem empty_list : ByteArray.empty.data.toList = [] := rfl
theorem empty_of {s : ByteArray} (h : s.size = 0) : s.toList = [] ∧ s.toList.isEmpty = true := by
  rw [size_zero h]
  exact ⟨by rw [ByteArray.toList_eq]; rfl, by rw [ByteArray.toList_eq]; rfl⟩
theorem five_cells (w : World) (a b c d e : ByteArray) (t : Nat) : ∀ j (h : j < [a, b, c, d, e].length), (w.alloc (.cells #[.string a, .string b, .string c, .string d, .string e] t)).cell? ⟨w.heap.size, j, none⟩ = some (.string [a, b, c, d, e][j]) := by
  intro j h
  rw [(Arr.fresh w t [.string a, .string b, .string c, .string d, .string e]).cell]
  match j, h with
  | 0, _ => rfl
  | 1, _ => rfl
  | 2, _ => rfl
  | 3, _ => rfl
  | 4, _ => rfl
theorem flat_five_le {l m d n r : ByteArray} (h1 : l.size ≤ 2000000) (h2 : m.size ≤ 1) (h3 : d.size ≤ 2000000) (h4 : n.size ≤ 1) (h5 : r.size ≤ 2000000) : (flat [l, m, d, n, r]).length ≤ 1099511627776 := by
  rw [flat_five]
  simp only [List.length_append, size_data]
  omega
theorem mark_le (m x : ByteArray) (h : m.size ≤ 1) : (markOf m x).size ≤ 1 := by
  unfold markOf
  split
  · exact Nat.zero_le _
  · exact h

set_option maxHeartbeats 2000000 in
theorem impl_addr (l d r : ByteArray) (w : World) (hl : l.size ≤ 2000000) (hd : d.size ≤ 2000000) (hr : r.size ≤ 2000000) :
    Calls Try.prog 84 #[.agg #[.string l, .string d, .string r]] w fun e w' => e = .returned (.string (jidT l d r)) ∧ Below w.heap.size w w' := by
  have hj : Calls Try.prog 48 #[.slice (some ⟨w.heap.size + 1, 0, none⟩) 5 5] ((w.alloc (.cells #[.string l, .string d, .string r] 69)).alloc (.cells #[.string l, .string (markOf atS l), .string d, .string (markOf slS r), .string r] 9))
      fun e w' => e = .returned (.string (strOf (flat [l, markOf atS l, d, markOf slS r, r]))) ∧ Below ((w.alloc (.cells #[.string l, .string d, .string r] 69)).alloc (.cells #[.string l, .string (markOf atS l), .string d, .string (markOf slS r), .string r] 9)).heap.size ((w.alloc (.cells #[.string l, .string d, .string r] 69)).alloc (.cells #[.string l, .string (markOf atS l), .string d, .string (markOf slS r), .string r] 9)) w' := by
    have h := impl_joined (w.alloc (.cells #[.string l, .string d, .string r] 69)).heap.size 5 [l, markOf atS l, d, markOf slS r, r] ((w.alloc (.cells #[.string l, .string d, .string r] 69)).alloc (.cells #[.string l, .string (markOf atS l), .string d, .string (markOf slS r), .string r] 9)) (by simp)
      (five_cells _ _ _ _ _ _ _) (by simp) (flat_five_le hl (mark_le _ _ (by decide)) hd (mark_le _ _ (by decide)) hr)
    simpa using h
  have hfold : strOf (flat [l, markOf atS l, d, markOf slS r, r]) = jidT l d r := rfl
  rw [hfold] at hj
  obtain ⟨v, hv⟩ : ∃ v, v = jidT l d r := ⟨_, rfl⟩
  rw [← hv] at hj ⊢
  clear hv hfold
  rcases Nat.eq_zero_or_pos l.size with h1 | h1 <;> rcases Nat.eq_zero_or_pos r.size with h2 | h2
  · rw [mark_none h1, mark_none h2] at hj
    obtain ⟨n1, e1⟩ := empty_of h1
    obtain ⟨n2, e2⟩ := empty_of h2
    go_enter Try.func84, Try.ntmps84
    go_wp2_with (go_at_call 48; go_fit hj; rintro e w1 ⟨rfl, hb⟩)
    go_ret
    exact ⟨rfl, (((Below.refl _ _).alloc (Nat.le_refl _) _).alloc (by simp) _).trans (hb.mono (by simp; omega))⟩
  · rw [mark_none h1, mark_some h2] at hj
    obtain ⟨n1, e1⟩ := empty_of h1
    have n2 := ne_nil h2
    have e2 := not_empty h2
    go_enter Try.func84, Try.ntmps84
    go_wp2_with (go_at_call 48; go_fit hj; rintro e w1 ⟨rfl, hb⟩)
    go_ret
    exact ⟨rfl, (((Below.refl _ _).alloc (Nat.le_refl _) _).alloc (by simp) _).trans (hb.mono (by simp; omega))⟩
  · rw [mark_some h1, mark_none h2] at hj
    have n1 := ne_nil h1
    have e1 := not_empty h1
    obtain ⟨n2, e2⟩ := empty_of h2
    go_enter Try.func84, Try.ntmps84
    go_wp2_with (go_at_call 48; go_fit hj; rintro e w1 ⟨rfl, hb⟩)
    go_ret
    exact ⟨rfl, (((Below.refl _ _).alloc (Nat.le_refl _) _).alloc (by simp) _).trans (hb.mono (by simp; omega))⟩
  · rw [mark_some h1, mark_some h2] at hj
    have n1 := ne_nil h1
    have e1 := not_empty h1
    have n2 := ne_nil h2
    have e2 := not_empty h2
    go_enter Try.func84, Try.ntmps84
    go_wp2_with (go_at_call 48; go_fit hj; rintro e w1 ⟨rfl, hb⟩)
    go_ret
    exact ⟨rfl, (((Below.refl _ _).alloc (Nat.le_refl _) _).alloc (by simp) _).trans (hb.mono (by simp; omega))⟩

set_option maxHeartbeats 2000000 in
theorem spec_addr (l d r : ByteArray) (w : World) (hl : l.size ≤ 2000000) (hd : d.size ≤ 2000000) (hr : r.size ≤ 2000000) :
    Calls Try.prog 96 #[.agg #[.string l, .string d, .string r]] w fun e w' => e = .returned (.string (jidT l d r)) ∧ Below w.heap.size w w' := by
  obtain ⟨v, hv⟩ : ∃ v, v = jidT l d r := ⟨_, rfl⟩
  rw [← hv]
  have HV := Lib.hid hv
  clear hv
  rcases Nat.eq_zero_or_pos l.size with h1 | h1 <;> rcases Nat.eq_zero_or_pos r.size with h2 | h2
  · have hv' := HV.out
    unfold jidT at hv'
    rw [mark_none h1, mark_none h2] at hv'
    have HV := Lib.hid hv'
    clear hv'
    obtain ⟨n1, e1⟩ := empty_of h1
    obtain ⟨n2, e2⟩ := empty_of h2
    go_enter Try.func96, Try.ntmps96
    go_wp2
    go_ret
    refine ⟨ret_str (WideShapes.bytes_inj ?_), (Below.refl _ _).alloc (Nat.le_refl _) _⟩
    rw [HV.out, strOf_data, flat_five]
    have z1 : l.data.toList = [] := List.eq_nil_of_length_eq_zero ((size_data l).trans h1)
    have z2 : r.data.toList = [] := List.eq_nil_of_length_eq_zero ((size_data r).trans h2)
    simp [z1, z2, empty_list, atS, slS, Joins.data_append]
  · have hv' := HV.out
    unfold jidT at hv'
    rw [mark_none h1, mark_some h2] at hv'
    have HV := Lib.hid hv'
    clear hv'
    obtain ⟨n1, e1⟩ := empty_of h1
    have n2 := ne_nil h2
    have e2 := not_empty h2
    go_enter Try.func96, Try.ntmps96
    go_wp2
    go_ret
    refine ⟨ret_str (WideShapes.bytes_inj ?_), (Below.refl _ _).alloc (Nat.le_refl _) _⟩
    rw [HV.out, strOf_data, flat_five]
    have z1 : l.data.toList = [] := List.eq_nil_of_length_eq_zero ((size_data l).trans h1)
    simp [z1, empty_list, atS, slS, Joins.data_append]
  · have hv' := HV.out
    unfold jidT at hv'
    rw [mark_some h1, mark_none h2] at hv'
    have HV := Lib.hid hv'
    clear hv'
    have n1 := ne_nil h1
    have e1 := not_empty h1
    obtain ⟨n2, e2⟩ := empty_of h2
    go_enter Try.func96, Try.ntmps96
    go_wp2
    go_ret
    refine ⟨ret_str (WideShapes.bytes_inj ?_), (Below.refl _ _).alloc (Nat.le_refl _) _⟩
    rw [HV.out, strOf_data, flat_five]
    have z2 : r.data.toList = [] := List.eq_nil_of_length_eq_zero ((size_data r).trans h2)
    simp [z2, empty_list, atS, slS, Joins.data_append]
  · have hv' := HV.out
    unfold jidT at hv'
    rw [mark_some h1, mark_some h2] at hv'
    have HV := Lib.hid hv'
    clear hv'
    have n1 := ne_nil h1
    have e1 := not_empty h1
    have n2 := ne_nil h2
    have e2 := not_empty h2
    go_enter Try.func96, Try.ntmps96
    go_wp2
    go_ret
    refine ⟨ret_str (WideShapes.bytes_inj ?_), (Below.refl _ _).alloc (Nat.le_refl _) _⟩
    rw [HV.out, strOf_data, flat_five]
    simp [empty_list, atS, slS, Joins.data_append]

theorem right_le {l d r : ByteArray} (h : jidB l d r = true) : l.size ≤ 30 ∧ d.size ≤ 30 ∧ r.size ≤ 30 := by
  unfold jidB jidB' at h
  simp only [Bool.and_eq_true] at h
  obtain ⟨⟨h1, h2⟩, h3⟩ := h
  have h2' := (domB_iff.1 h2).2.1
  unfold partB at h1 h2' h3
  simp at h1 h2' h3
  exact ⟨h1.1, h2'.1, h3.1⟩
/-- What JidText answers. -/
noncomputable def jidTextS (l d r : ByteArray) : ByteArray := if jidB l d r = true then jidT l d r else ByteArray.empty
theorem jidTextS_yes {l d r : ByteArray} (h : jidB l d r = true) : jidTextS l d r = jidT l d r := by unfold jidTextS; rw [if_pos h]
theorem jidTextS_no {l d r : ByteArray} (h : jidB l d r = false) : jidTextS l d r = ByteArray.empty := by unfold jidTextS; rw [if_neg (by rw [h]; exact Bool.false_ne_true)]
set_option maxHeartbeats 1000000 in
theorem impl_text (l d r : ByteArray) (w : World) (hl : l.size ≤ maxLen) (hd : d.size ≤ maxLen) (hr : r.size ≤ maxLen) (hm : MaxL w) :
    Calls Try.prog 75 #[.agg #[.string l, .string d, .string r]] w fun e w' => e = .returned (.string (jidTextS l d r)) ∧ Below w.heap.size w w' := by
  have hm1 : MaxL (w.alloc (.cells #[.string l, .string d, .string r] 69)) := hm.below ((Below.refl w.heap.size w).alloc (Nat.le_refl _) _) hm.pos
  have i1 := impl_right l d r (w.alloc (.cells #[.string l, .string d, .string r] 69)) hl hd hr hm1
  obtain ⟨b, hb⟩ : ∃ b, jidB l d r = b := ⟨_, rfl⟩
  rw [hb] at i1
  cases b
  · rw [jidTextS_no hb]
    clear hb
    go_enter Try.func75, Try.ntmps75
    go_wp2_with (go_at_call 83; go_fit i1; rintro e w1 ⟨rfl, hb1⟩)
    go_ret
    exact ⟨rfl, below_one hb1⟩
  · rw [jidTextS_yes hb]
    obtain ⟨k1, k2, k3⟩ := right_le hb
    have i2 := fun w => impl_addr l d r w (by omega) (by omega) (by omega)
    clear hb
    obtain ⟨v, hv⟩ : ∃ v, v = jidT l d r := ⟨_, rfl⟩
    rw [← hv] at i2 ⊢
    clear hv
    go_enter Try.func75, Try.ntmps75
    go_wp2_with (first
      | (go_at_call 83; go_fit i1; rintro e w1 ⟨rfl, hb1⟩; obtain ⟨⟨c0, c1, c2⟩, _, _⟩ := three_kept hb1)
      | (go_at_call 84; go_fit (i2 _); rintro e w2 ⟨rfl, hb2⟩))
    go_ret
    exact ⟨rfl, below_one (hb1.trans (hb2.mono hb1.size))⟩
end Go.Proofs.Ytpjmcpfmnlfmdaa
