/- Several parts in one text: JidLawBits, JidLess, JidMatch. -/
import Derived.Test.YtpjmcpfmnlfmdaaHFA
namespace Go.Proofs.Ytpjmcpfmnlfmdaa
set_option linter.unusedSimpArgs false
set_option linter.unusedVariables false
open Go.RowKit

end Go.Proofs.Ytpjmcpfmnlfmdaa

namespace Go.Proofs.Ytpjmcpfmnlfmdaa
set_option linter.unusedSimpArgs false
set_option linter.unusedVariables false
open Go.RowKit

/-- Two boxes of three cells that were laid ahead of a call stand behind it. -/
theorem six_kept {w w1 : World} {a b c x y z : Value} {t u : Nat} (h : Below ((w.alloc (.cells #[a, b, c] t)).alloc (.cells #[x, y, z] u)).heap.size ((w.alloc (.cells #[a, b, c] t)).alloc (.cells #[x, y, z] u)) w1) :
    (w1.cell? ⟨w.heap.size, 0, none⟩ = some a ∧ w1.cell? ⟨w.heap.size, 1, none⟩ = some b ∧ w1.cell? ⟨w.heap.size, 2, none⟩ = some c) ∧
    (w1.cell? ⟨w.heap.size + 1, 0, none⟩ = some x ∧ w1.cell? ⟨w.heap.size + 1, 1, none⟩ = some y ∧ w1.cell? ⟨w.heap.size + 1, 2, none⟩ = some z) ∧
    (w1.frozen? ⟨w.heap.size, 0, none⟩ = false ∧ w1.frozen? ⟨w.heap.size, 1, none⟩ = false ∧ w1.frozen? ⟨w.heap.size, 2, none⟩ = false) := by
  have h1 : Below (w.alloc (.cells #[a, b, c] t)).heap.size (w.alloc (.cells #[a, b, c] t)) w1 := below_one h
  have h2 := three_kept h1
  have h3 := three_kept h
  rw [World.size_alloc] at h3
  exact ⟨h2.1, h3.1, h2.2.1⟩
end Go.Proofs.Ytpjmcpfmnlfmdaa

namespace Go.Proofs.Ytpjmcpfmnlfmdaa
set_option linter.unusedSimpArgs false
set_option linter.unusedVariables false
open Go.RowKit

noncomputable def matchJ (l d r x y z : ByteArray) : Bool :=
  if jidB l d r && jidB x y z then (decide (l.size = 0) || l.toList == x.toList) && d.toList == y.toList && (decide (r.size = 0) || r.toList == z.toList) else false
theorem empty_cases (s : ByteArray) : (s.size = 0 ∧ s.toList = [] ∧ s.toList.isEmpty = true ∧ decide (s.size = 0) = true) ∨ (0 < s.size ∧ s.toList ≠ [] ∧ s.toList.isEmpty = false ∧ decide (s.size = 0) = false) := by
  rcases Nat.eq_zero_or_pos s.size with h | h
  · exact .inl ⟨h, (empty_of h).1, (empty_of h).2, decide_eq_true h⟩
  · exact .inr ⟨h, ne_nil h, not_empty h, decide_eq_false (by omega)⟩
set_option maxHeartbeats 8000000 in
theorem spec_match (l d r x y z : ByteArray) (w : World) (hl : l.size ≤ maxLen) (hd : d.size ≤ maxLen) (hr : r.size ≤ maxLen) (hx : x.size ≤ maxLen) (hy : y.size ≤ maxLen) (hz : z.size ≤ maxLen) :
    Calls Try.prog 85 #[.agg #[.string l, .string d, .string r], .agg #[.string x, .string y, .string z]] w fun e w' => e = .returned (.bool (matchJ l d r x y z)) ∧ Below w.heap.size w w' := by
  have i1 := fun w => spec_right l d r w hl hd hr
  have i2 := fun w => spec_right x y z w hx hy hz
  obtain ⟨v, hv⟩ : ∃ v, matchJ l d r x y z = v := ⟨_, rfl⟩
  rw [hv]
  unfold matchJ at hv
  obtain ⟨b1, h1⟩ : ∃ b, jidB l d r = b := ⟨_, rfl⟩
  obtain ⟨b2, h2⟩ : ∃ b, jidB x y z = b := ⟨_, rfl⟩
  obtain ⟨b3, h3⟩ : ∃ b, (d.toList == y.toList) = b := ⟨_, rfl⟩
  obtain ⟨b4, h4⟩ : ∃ b, (l.toList == x.toList) = b := ⟨_, rfl⟩
  obtain ⟨b5, h5⟩ : ∃ b, (r.toList == z.toList) = b := ⟨_, rfl⟩
  rw [h1] at i1
  rw [h2] at i2
  rw [h1, h2, h3, h4, h5] at hv
  clear h1 h2
  have HK := Lib.hid (fun w1 (h : Below ((w.alloc (.cells #[.string l, .string d, .string r] 69)).alloc (.cells #[.string x, .string y, .string z] 69)).heap.size ((w.alloc (.cells #[.string l, .string d, .string r] 69)).alloc (.cells #[.string x, .string y, .string z] 69)) w1) => six_kept h)
  cases b1
  · have HV := Lib.hid hv
    clear hv
    go_enter Try.func85, Try.ntmps85
    go_wp2_with (first | (go_at_call 103; go_fit (i1 _); rintro e w1 ⟨rfl, hb⟩))
    go_ret
    exact ⟨ret_bool (by rw [← HV.out]; rfl), below_one (below_one hb)⟩
  · cases b2
    · have HV := Lib.hid hv
      clear hv
      go_enter Try.func85, Try.ntmps85
      go_wp2_with (first
        | (go_at_call 103; go_fit (i1 _); rintro e w1 ⟨rfl, hb⟩; obtain ⟨⟨c0, c1, c2⟩, ⟨d0, d1, d2⟩, _⟩ := HK.out _ hb)
        | (go_at_call 103; go_fit (i2 _); rintro e w2 ⟨rfl, hb2⟩; replace hb := hb.trans (hb2.mono hb.size); clear hb2))
      go_ret
      exact ⟨ret_bool (by rw [← HV.out]; rfl), below_one (below_one hb)⟩
    · rcases empty_cases l with ⟨_, n1, n2, n3⟩ | ⟨_, n1, n2, n3⟩ <;> rcases empty_cases r with ⟨_, m1, m2, m3⟩ | ⟨_, m1, m2, m3⟩ <;> rw [n3, m3] at hv <;> have HV := Lib.hid hv <;> clear hv n3 m3 <;> cases b3 <;> cases b4 <;>
       (go_enter Try.func85, Try.ntmps85
        go_wp2_with (first
          | (go_at_call 103; go_fit (i1 _); rintro e w1 ⟨rfl, hb⟩; obtain ⟨⟨c0, c1, c2⟩, ⟨d0, d1, d2⟩, _⟩ := HK.out _ hb)
          | (go_at_call 103; go_fit (i2 _); rintro e w2 ⟨rfl, hb2⟩; replace hb := hb.trans (hb2.mono hb.size); clear hb2; obtain ⟨⟨c0, c1, c2⟩, ⟨d0, d1, d2⟩, _⟩ := HK.out _ hb))
        go_ret
        exact ⟨ret_bool (by rw [← HV.out]; rfl), below_one (below_one hb)⟩)
set_option maxHeartbeats 8000000 in
theorem impl_match (l d r x y z : ByteArray) (w : World) (hl : l.size ≤ maxLen) (hd : d.size ≤ maxLen) (hr : r.size ≤ maxLen) (hx : x.size ≤ maxLen) (hy : y.size ≤ maxLen) (hz : z.size ≤ maxLen) (hm : MaxL w) :
    Calls Try.prog 80 #[.agg #[.string l, .string d, .string r], .agg #[.string x, .string y, .string z]] w fun e w' => e = .returned (.bool (matchJ l d r x y z)) ∧ Below w.heap.size w w' := by
  have i1 := fun w => impl_right l d r w hl hd hr
  have i2 := fun w => impl_right x y z w hx hy hz
  obtain ⟨v, hv⟩ : ∃ v, matchJ l d r x y z = v := ⟨_, rfl⟩
  rw [hv]
  unfold matchJ at hv
  obtain ⟨b1, h1⟩ : ∃ b, jidB l d r = b := ⟨_, rfl⟩
  obtain ⟨b2, h2⟩ : ∃ b, jidB x y z = b := ⟨_, rfl⟩
  obtain ⟨b3, h3⟩ : ∃ b, (d.toList == y.toList) = b := ⟨_, rfl⟩
  obtain ⟨b4, h4⟩ : ∃ b, (l.toList == x.toList) = b := ⟨_, rfl⟩
  obtain ⟨b5, h5⟩ : ∃ b, (r.toList == z.toList) = b := ⟨_, rfl⟩
  rw [h1] at i1
  rw [h2] at i2
  rw [h1, h2, h3, h4, h5] at hv
  clear h1 h2
  have HK := Lib.hid (fun w1 (h : Below ((w.alloc (.cells #[.string l, .string d, .string r] 69)).alloc (.cells #[.string x, .string y, .string z] 69)).heap.size ((w.alloc (.cells #[.string l, .string d, .string r] 69)).alloc (.cells #[.string x, .string y, .string z] 69)) w1) => six_kept h)
  have HM := Lib.hid (fun w1 (h : Below ((w.alloc (.cells #[.string l, .string d, .string r] 69)).alloc (.cells #[.string x, .string y, .string z] 69)).heap.size ((w.alloc (.cells #[.string l, .string d, .string r] 69)).alloc (.cells #[.string x, .string y, .string z] 69)) w1) => hm.below (below_one (below_one h)) hm.pos)
  clear hm
  cases b1
  · have HV := Lib.hid hv
    clear hv
    go_enter Try.func80, Try.ntmps80
    go_wp2_with (first | (go_at_call 83; go_fit (i1 _ (HM.out _ (Below.refl _ _))); rintro e w1 ⟨rfl, hb⟩))
    go_ret
    exact ⟨ret_bool (by rw [← HV.out]; rfl), below_one (below_one hb)⟩
  · cases b2
    · have HV := Lib.hid hv
      clear hv
      go_enter Try.func80, Try.ntmps80
      go_wp2_with (first
        | (go_at_call 83; go_fit (i1 _ (HM.out _ (Below.refl _ _))); rintro e w1 ⟨rfl, hb⟩; obtain ⟨⟨c0, c1, c2⟩, ⟨d0, d1, d2⟩, _⟩ := HK.out _ hb)
        | (go_at_call 83; go_fit (i2 _ (HM.out _ hb)); rintro e w2 ⟨rfl, hb2⟩; replace hb := hb.trans (hb2.mono hb.size); clear hb2))
      go_ret
      exact ⟨ret_bool (by rw [← HV.out]; rfl), below_one (below_one hb)⟩
    · rcases empty_cases l with ⟨_, n1, n2, n3⟩ | ⟨_, n1, n2, n3⟩ <;> rcases empty_cases r with ⟨_, m1, m2, m3⟩ | ⟨_, m1, m2, m3⟩ <;> rw [n3, m3] at hv <;> have HV := Lib.hid hv <;> clear hv n3 m3 <;> cases b3 <;> cases b4 <;> cases b5 <;>
       (go_enter Try.func80, Try.ntmps80
        go_wp2_with (first
          | (go_at_call 83; go_fit (i1 _ (HM.out _ (Below.refl _ _))); rintro e w1 ⟨rfl, hb⟩; obtain ⟨⟨c0, c1, c2⟩, ⟨d0, d1, d2⟩, _⟩ := HK.out _ hb)
          | (go_at_call 83; go_fit (i2 _ (HM.out _ hb)); rintro e w2 ⟨rfl, hb2⟩; replace hb := hb.trans (hb2.mono hb.size); clear hb2; obtain ⟨⟨c0, c1, c2⟩, ⟨d0, d1, d2⟩, ⟨f0, f1, f2⟩⟩ := HK.out _ hb))
        go_ret
        first
          | exact ⟨ret_bool (by rw [← HV.out]; rfl), below_one (below_one hb)⟩
          | exact ⟨ret_bool (by rw [← HV.out]; rfl), (below_one (below_one hb)).setCell (Nat.le_refl _) _⟩
          | exact ⟨ret_bool (by rw [← HV.out]; rfl), ((below_one (below_one hb)).setCell (Nat.le_refl _) _).setCell (Nat.le_refl _) _⟩)
end Go.Proofs.Ytpjmcpfmnlfmdaa
