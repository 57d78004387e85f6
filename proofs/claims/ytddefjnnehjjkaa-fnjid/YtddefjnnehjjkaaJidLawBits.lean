/- The small functions of the laws on addresses: their sizes, their copies, their comparison. -/
import Derived.Test.YtddefjnnehjjkaaJidSpec
namespace Go.Proofs.Ytddefjnnehjjkaa
set_option linter.unusedSimpArgs false
set_option linter.unusedVariables false
open Go.RowKit

/-- An address as a value. -/
def jidV (l d r : ByteArray) : Value := .agg #[.string l, .string d, .string r]
theorem sz_jid (l d r : ByteArray) (left : Int) (w : World) (hl : l.size ≤ 9223372036854775807) (hd : d.size ≤ 9223372036854775807) (hr : r.size ≤ 9223372036854775807) (h0 : 0 ≤ left) (h1 : left ≤ 1048576) :
    Calls Try.prog 28 #[.agg #[.string l, .string d, .string r], .int .i64 left] w fun e w' =>
      (∃ z, e = .returned (.int .i64 z) ∧ (z = -1 ∨ 0 ≤ z ∧ z = left - l.size - d.size - r.size)) ∧ Below w.heap.size w w' := by
  by_cases k1 : left - l.size < 0
  · go_enter Try.func28, Try.ntmps28
    go_wp2
    all_goals (go_ret; exact ⟨⟨_, rfl, .inl rfl⟩, (Below.refl _ _).alloc (Nat.le_refl _) _⟩)
  · by_cases k2 : left - l.size - d.size < 0
    · go_enter Try.func28, Try.ntmps28
      go_wp2
      all_goals (go_ret; exact ⟨⟨_, rfl, .inl rfl⟩, (Below.refl _ _).alloc (Nat.le_refl _) _⟩)
    · by_cases k3 : left - l.size - d.size - r.size < 0
      · go_enter Try.func28, Try.ntmps28
        go_wp2
        all_goals (go_ret; exact ⟨⟨_, rfl, .inl rfl⟩, (Below.refl _ _).alloc (Nat.le_refl _) _⟩)
      · go_enter Try.func28, Try.ntmps28
        go_wp2
        all_goals (go_ret; exact ⟨⟨_, rfl, .inr ⟨by omega, rfl⟩⟩, (Below.refl _ _).alloc (Nat.le_refl _) _⟩)
theorem to_jid (l d r : ByteArray) (w : World) :
    Calls Try.prog 29 #[.agg #[.string l, .string d, .string r]] w fun e w' => e = .returned (.agg #[.string l, .string d, .string r]) ∧ Below w.heap.size w w' := by
  go_enter Try.func29, Try.ntmps29
  go_wp2
  exact bodyPost_ret (v := .agg #[.string l, .string d, .string r]) (by simp [results, Try.results29, go_sem]) rfl ⟨rfl, (((Below.refl _ _).alloc (Nat.le_refl _) _).alloc (by simp) _).alloc (by simp; omega) _⟩
/-- Two addresses alike, field by field. -/
def eqJ (a b c x y z : ByteArray) : Bool := (a.toList == x.toList) && (b.toList == y.toList) && (c.toList == z.toList)
theorem eq_jid (a b c x y z : ByteArray) (w : World) :
    Calls Try.prog 31 #[.agg #[.string a, .string b, .string c], .agg #[.string x, .string y, .string z]] w fun e w' => e = .returned (.bool (eqJ a b c x y z)) ∧ Below w.heap.size w w' := by
  obtain ⟨b1, h1⟩ : ∃ b, (a.toList == x.toList) = b := ⟨_, rfl⟩
  obtain ⟨b2, h2⟩ : ∃ t, (b.toList == y.toList) = t := ⟨_, rfl⟩
  obtain ⟨b3, h3⟩ : ∃ t, (c.toList == z.toList) = t := ⟨_, rfl⟩
  unfold eqJ
  rw [h1, h2, h3]
  cases b1 <;> cases b2 <;> cases b3 <;>
    (go_enter Try.func31, Try.ntmps31
     go_wp2
     go_ret
     exact ⟨rfl, ((Below.refl _ _).alloc (Nat.le_refl _) _).alloc (by simp) _⟩)
theorem eq_jidout (a b c x y z : ByteArray) (k m : Int) (w : World) :
    Calls Try.prog 30 #[.agg #[.string a, .string b, .string c, .int .i64 k], .agg #[.string x, .string y, .string z, .int .i64 m]] w fun e w' => e = .returned (.bool (eqJ a b c x y z && (k == m))) ∧ Below w.heap.size w w' := by
  have hj := fun w => eq_jid a b c x y z w
  obtain ⟨b1, h1⟩ : ∃ t, eqJ a b c x y z = t := ⟨_, rfl⟩
  rw [h1] at hj
  rw [h1]
  clear h1
  cases b1
  · go_enter Try.func30, Try.ntmps30
    go_wp2_with (go_at_call 31; go_fit (hj _); rintro e w1 ⟨rfl, hb⟩)
    go_ret
    exact ⟨rfl, (((Below.refl _ _).alloc (Nat.le_refl _) _).alloc (by simp) _).trans (hb.mono (by simp; omega))⟩
  · go_enter Try.func30, Try.ntmps30
    go_wp2_with (go_at_call 31; go_fit (hj _); rintro e w1 ⟨rfl, hb⟩; have c3 : w1.cell? ⟨w.heap.size, 3, none⟩ = some (.int .i64 k) := (hb.cell (p := ⟨w.heap.size, 3, none⟩) (by simp; omega)).trans (by simp); have c4 : w1.cell? ⟨w.heap.size + 1, 3, none⟩ = some (.int .i64 m) := (hb.cell (p := ⟨w.heap.size + 1, 3, none⟩) (by simp)).trans (by simp))
    all_goals
      go_ret
      refine ⟨ret_bool ?_, (((Below.refl _ _).alloc (Nat.le_refl _) _).alloc (by simp) _).trans (hb.mono (by simp; omega))⟩
      simp_all
end Go.Proofs.Ytddefjnnehjjkaa
