/- FnExactPlain's walk. -/
import Derived.Test.YtihjgkicmgomcaaStPlainL
namespace Go.Proofs.Ytihjgkicmgomcaa
set_option linter.unusedSimpArgs false
set_option linter.unusedVariables false
open Go.RowKit

theorem eq_textoutp (t : ByteArray) (a c : Int) (w : World) :
    Calls Try.prog 26 #[.agg #[.string t, .int .i64 a, .int .i64 c], .agg #[.string t, .int .i64 a, .int .i64 c]] w fun e w' => e = .returned (.bool true) ∧ Below w.heap.size w w' := by
  have e1 : (t.toList == t.toList) = true := by simp
  go_enter Try.func26, Try.ntmps26
  go_wp2
  go_ret
  exact ⟨rfl, ((Below.refl _ _).alloc (Nat.le_refl _) _).alloc (by simp) _⟩
theorem pln_form (s : ByteArray) : ∃ t a c, plnV s = textOut t a c := by
  unfold plnV
  split
  · exact ⟨_, _, _, rfl⟩
  · split <;> exact ⟨_, _, _, rfl⟩
set_option maxHeartbeats 1000000 in
theorem plain_law (w : World) (a0 : ByteArray) (w0 : a0.size ≤ maxLen) :
    Calls Try.prog 7 #[.string a0] w fun e w' => e = .returned (.bool true) ∧ Below w.heap.size w w' := by
  have i1 := fun w => spec_plain_ a0 w w0
  have i2 := fun w => impl_plain a0 w w0
  unfold maxLen at w0
  obtain ⟨t, a, c, hv⟩ := pln_form a0
  rw [hv] at i1 i2
  unfold textOut at i1 i2
  clear hv
  have i3 := fun w => eq_textoutp t a c w
  by_cases hbig : 1048576 < a0.size
  · clear i1 i2 i3
    go_enter Try.func7, Try.ntmps7
    go_wp2
    go_ret
    exact ⟨rfl, Below.refl _ _⟩
  · go_enter Try.func7, Try.ntmps7
    go_wp2_with (first
      | (go_at_call 15; go_fit (i1 _); rintro e w1 ⟨rfl, hb⟩)
      | (go_at_call 13; go_fit (i2 _); rintro e w2 ⟨rfl, hb2⟩; obtain ⟨⟨k0, k1, k2⟩, _, hk⟩ := three_kept hb2; replace hb := hb.trans ((below_one hb2).mono hb.size))
      | (go_at_call 26; go_fit (i3 _); rintro e w3 ⟨rfl, hb3⟩; replace hb := hb.trans ((below_one hb3).mono hb.size)))
    go_ret
    exact ⟨rfl, hb⟩
end Go.Proofs.Ytihjgkicmgomcaa
