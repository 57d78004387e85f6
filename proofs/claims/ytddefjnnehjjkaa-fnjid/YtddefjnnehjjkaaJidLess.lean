/- The order of addresses and their patterns: what JidLess and Matches answer, the program's and the specification's. -/
import Derived.Test.YtddefjnnehjjkaaJidText
namespace Go.Proofs.Ytddefjnnehjjkaa
set_option linter.unusedSimpArgs false
set_option linter.unusedVariables false
open Go.RowKit

/-- Two boxes of three cells that were laid ahead of a call stand behind it. -/
theorem six_kept {w w1 : World} {a b c x y z : Value} {t u : Nat} (h : Below ((w.alloc (.cells #[a, b, c] t)).alloc (.cells #[x, y, z] u)).heap.size ((w.alloc (.cells #[a, b, c] t)).alloc (.cells #[x, y, z] u)) w1) :
    (w1.cell? ⟨w.heap.size, 0, none⟩ = some a ∧ w1.cell? ⟨w.heap.size, 1, none⟩ = some b ∧ w1.cell? ⟨w.heap.size, 2, none⟩ = some c) ∧
    (w1.cell? ⟨w.heap.size + 1, 0, none⟩ = some x ∧ w1.cell? ⟨w.heap.size + 1, 1, none⟩ = some y ∧ w1.cell? ⟨w.heap.size + 1, 2, none⟩ = some z) ∧
    (w1.frozen? ⟨w.heap.size, 0, none⟩ = false ∧ w1.frozen? ⟨w.heap.size, 1, none⟩ = false ∧ w1.frozen? ⟨w.heap.size, 2, none⟩ = false) := by
  have h1 : Below (w.alloc (.cells #[a, b, c] t)).heap.size (w.alloc (.cells #[a, b, c] t)) w1 := below_one h
  have h2 := three_kept h1
  have h3 := three_kept h
  rw [World.size_alloc] at h3
  exact ⟨h2.1, h3.1, h2.2.1⟩
theorem less_self : ∀ a : List UInt8, Op.bytesLess a a = false
  | [] => rfl
  | c :: a => by
    unfold Op.bytesLess
    rw [less_self a]
    simp
noncomputable def lessJ (l d r x y z : ByteArray) : Bool :=
  if jidB l d r && jidB x y z then (if d.toList == y.toList then (if l.toList == x.toList then Op.bytesLess r.toList z.toList else Op.bytesLess l.toList x.toList) else Op.bytesLess d.toList y.toList) else false
set_option maxHeartbeats 4000000 in
theorem spec_less (l d r x y z : ByteArray) (w : World) (hl : l.size ≤ maxLen) (hd : d.size ≤ maxLen) (hr : r.size ≤ maxLen) (hx : x.size ≤ maxLen) (hy : y.size ≤ maxLen) (hz : z.size ≤ maxLen) :
    Calls Try.prog 24 #[.agg #[.string l, .string d, .string r], .agg #[.string x, .string y, .string z]] w fun e w' => e = .returned (.bool (lessJ l d r x y z)) ∧ Below w.heap.size w w' := by
  have i1 := fun w => spec_right l d r w hl hd hr
  have i2 := fun w => spec_right x y z w hx hy hz
  obtain ⟨v, hv⟩ : ∃ v, lessJ l d r x y z = v := ⟨_, rfl⟩
  rw [hv]
  unfold lessJ at hv
  obtain ⟨b1, h1⟩ : ∃ b, jidB l d r = b := ⟨_, rfl⟩
  obtain ⟨b2, h2⟩ : ∃ b, jidB x y z = b := ⟨_, rfl⟩
  obtain ⟨b3, h3⟩ : ∃ b, (d.toList == y.toList) = b := ⟨_, rfl⟩
  obtain ⟨b4, h4⟩ : ∃ b, (l.toList == x.toList) = b := ⟨_, rfl⟩
  rw [h1] at i1
  rw [h2] at i2
  rw [h1, h2, h3, h4] at hv
  clear h1 h2
  have HV := Lib.hid hv
  clear hv
  have HK := Lib.hid (fun w1 (h : Below ((w.alloc (.cells #[.string l, .string d, .string r] 24)).alloc (.cells #[.string x, .string y, .string z] 24)).heap.size ((w.alloc (.cells #[.string l, .string d, .string r] 24)).alloc (.cells #[.string x, .string y, .string z] 24)) w1) => six_kept h)
  cases b1
  · go_enter Try.func24, Try.ntmps24
    go_wp2_with (first | (go_at_call 15; go_fit (i1 _); rintro e w1 ⟨rfl, hb⟩))
    go_ret
    exact ⟨ret_bool (by rw [← HV.out]; rfl), below_one (below_one hb)⟩
  · cases b2
    · go_enter Try.func24, Try.ntmps24
      go_wp2_with (first
        | (go_at_call 15; go_fit (i1 _); rintro e w1 ⟨rfl, hb⟩; obtain ⟨⟨c0, c1, c2⟩, ⟨d0, d1, d2⟩, _⟩ := HK.out _ hb)
        | (go_at_call 15; go_fit (i2 _); rintro e w2 ⟨rfl, hb2⟩; replace hb := hb.trans (hb2.mono hb.size); clear hb2))
      go_ret
      exact ⟨ret_bool (by rw [← HV.out]; rfl), below_one (below_one hb)⟩
    · cases b3 <;> cases b4 <;>
       (go_enter Try.func24, Try.ntmps24
        go_wp2_with (first
          | (go_at_call 15; go_fit (i1 _); rintro e w1 ⟨rfl, hb⟩; obtain ⟨⟨c0, c1, c2⟩, ⟨d0, d1, d2⟩, _⟩ := HK.out _ hb)
          | (go_at_call 15; go_fit (i2 _); rintro e w2 ⟨rfl, hb2⟩; replace hb := hb.trans (hb2.mono hb.size); clear hb2; obtain ⟨⟨c0, c1, c2⟩, ⟨d0, d1, d2⟩, _⟩ := HK.out _ hb))
        go_ret
        exact ⟨ret_bool (by rw [← HV.out]; rfl), below_one (below_one hb)⟩)
set_option maxHeartbeats 4000000 in
theorem impl_less (l d r x y z : ByteArray) (w : World) (hl : l.size ≤ maxLen) (hd : d.size ≤ maxLen) (hr : r.size ≤ maxLen) (hx : x.size ≤ maxLen) (hy : y.size ≤ maxLen) (hz : z.size ≤ maxLen) (hm : MaxL w) :
    Calls Try.prog 23 #[.agg #[.string l, .string d, .string r], .agg #[.string x, .string y, .string z]] w fun e w' => e = .returned (.bool (lessJ l d r x y z)) ∧ Below w.heap.size w w' := by
  have i1 := fun w => impl_right l d r w hl hd hr
  have i2 := fun w => impl_right x y z w hx hy hz
  obtain ⟨v, hv⟩ : ∃ v, lessJ l d r x y z = v := ⟨_, rfl⟩
  rw [hv]
  unfold lessJ at hv
  obtain ⟨b1, h1⟩ : ∃ b, jidB l d r = b := ⟨_, rfl⟩
  obtain ⟨b2, h2⟩ : ∃ b, jidB x y z = b := ⟨_, rfl⟩
  obtain ⟨b3, h3⟩ : ∃ b, (d.toList == y.toList) = b := ⟨_, rfl⟩
  obtain ⟨b4, h4⟩ : ∃ b, (l.toList == x.toList) = b := ⟨_, rfl⟩
  rw [h1] at i1
  rw [h2] at i2
  rw [h1, h2, h3, h4] at hv
  clear h1 h2
  have HV := Lib.hid hv
  clear hv
  have HK := Lib.hid (fun w1 (h : Below ((w.alloc (.cells #[.string l, .string d, .string r] 24)).alloc (.cells #[.string x, .string y, .string z] 24)).heap.size ((w.alloc (.cells #[.string l, .string d, .string r] 24)).alloc (.cells #[.string x, .string y, .string z] 24)) w1) => six_kept h)
  have HM := Lib.hid (fun w1 (h : Below ((w.alloc (.cells #[.string l, .string d, .string r] 24)).alloc (.cells #[.string x, .string y, .string z] 24)).heap.size ((w.alloc (.cells #[.string l, .string d, .string r] 24)).alloc (.cells #[.string x, .string y, .string z] 24)) w1) => hm.below (below_one (below_one h)) hm.pos)
  clear hm
  obtain ⟨b5, h5⟩ : ∃ b, (r.toList == z.toList) = b := ⟨_, rfl⟩
  have walk : (b3 && b4 && b5) = false → Calls Try.prog 23 #[.agg #[.string l, .string d, .string r], .agg #[.string x, .string y, .string z]] w fun e w' => e = .returned (.bool v) ∧ Below w.heap.size w w' := by
    intro hne
    cases b1
    · cases b3 <;> cases b4 <;> cases b5 <;> first
       | (cases hne; done)
       | (clear hne
          go_enter Try.func23, Try.ntmps23
          go_wp2_with (first | (go_at_call 14; go_fit (i1 _ (HM.out _ (Below.refl _ _))); rintro e w1 ⟨rfl, hb⟩))
          go_ret
          exact ⟨ret_bool (by rw [← HV.out]; rfl), below_one (below_one hb)⟩)
    · cases b2
      · cases b3 <;> cases b4 <;> cases b5 <;> first
         | (cases hne; done)
         | (clear hne
            go_enter Try.func23, Try.ntmps23
            go_wp2_with (first
              | (go_at_call 14; go_fit (i1 _ (HM.out _ (Below.refl _ _))); rintro e w1 ⟨rfl, hb⟩; obtain ⟨⟨c0, c1, c2⟩, ⟨d0, d1, d2⟩, _⟩ := HK.out _ hb)
              | (go_at_call 14; go_fit (i2 _ (HM.out _ hb)); rintro e w2 ⟨rfl, hb2⟩; replace hb := hb.trans (hb2.mono hb.size); clear hb2))
            go_ret
            exact ⟨ret_bool (by rw [← HV.out]; rfl), below_one (below_one hb)⟩)
      · cases b3 <;> cases b4 <;> cases b5 <;> first
         | (cases hne; done)
         | (clear hne
            go_enter Try.func23, Try.ntmps23
            go_wp2_with (first
              | (go_at_call 14; go_fit (i1 _ (HM.out _ (Below.refl _ _))); rintro e w1 ⟨rfl, hb⟩; obtain ⟨⟨c0, c1, c2⟩, ⟨d0, d1, d2⟩, _⟩ := HK.out _ hb)
              | (go_at_call 14; go_fit (i2 _ (HM.out _ hb)); rintro e w2 ⟨rfl, hb2⟩; replace hb := hb.trans (hb2.mono hb.size); clear hb2; obtain ⟨⟨c0, c1, c2⟩, ⟨d0, d1, d2⟩, _⟩ := HK.out _ hb))
            go_ret
            exact ⟨ret_bool (by rw [← HV.out]; rfl), below_one (below_one hb)⟩)
  cases hb : (b3 && b4 && b5)
  · exact walk hb
  · simp only [Bool.and_eq_true] at hb
    obtain ⟨⟨rfl, rfl⟩, rfl⟩ := hb
    obtain rfl : v = false := by
      rw [← HV.out, ← beq_iff_eq.1 h5, less_self]
      cases b1 <;> cases b2 <;> rfl
    clear walk HV i1 i2 HM HK
    go_enter Try.func23, Try.ntmps23
    go_wp2
    go_ret
    exact ⟨rfl, ((Below.refl _ _).alloc (Nat.le_refl _) _).alloc (by simp) _⟩
end Go.Proofs.Ytddefjnnehjjkaa
