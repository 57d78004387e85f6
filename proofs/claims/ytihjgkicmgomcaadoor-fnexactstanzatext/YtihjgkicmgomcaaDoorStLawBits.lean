/- The small functions of the laws on stanzas: their sizes, their copies, their comparison. -/
import Derived.Test.YtihjgkicmgomcaaDoorStHand
namespace Go.Proofs.YtihjgkicmgomcaaDoor
set_option linter.unusedSimpArgs false
set_option linter.unusedVariables false
open Go.RowKit

set_option maxHeartbeats 1000000 in
theorem sz_st (k t f o b : ByteArray) (n left : Int) (w : World) (hk : k.size ≤ 9223372036854775807) (ht : t.size ≤ 9223372036854775807) (hf : f.size ≤ 9223372036854775807) (ho : o.size ≤ 9223372036854775807) (hbz : b.size ≤ 9223372036854775807) (h0 : 0 ≤ left) (h1 : left ≤ 1048576) :
    Calls Tryd.prog 4 #[.agg #[.string k, .string t, .string f, .string o, .int .i64 n, .string b], .int .i64 left] w fun e w' =>
      (∃ z, e = .returned (.int .i64 z) ∧ (z = -1 ∨ 0 ≤ z ∧ z = left - k.size - t.size - f.size - o.size - b.size)) ∧ Below w.heap.size w w' := by
  by_cases k1 : left - k.size < 0
  · go_enter Tryd.func4, Tryd.ntmps4
    go_wp2
    all_goals (go_ret; exact ⟨⟨_, rfl, .inl rfl⟩, (Below.refl _ _).alloc (Nat.le_refl _) _⟩)
  by_cases k2 : left - k.size - t.size < 0
  · go_enter Tryd.func4, Tryd.ntmps4
    go_wp2
    all_goals (go_ret; exact ⟨⟨_, rfl, .inl rfl⟩, (Below.refl _ _).alloc (Nat.le_refl _) _⟩)
  by_cases k3 : left - k.size - t.size - f.size < 0
  · go_enter Tryd.func4, Tryd.ntmps4
    go_wp2
    all_goals (go_ret; exact ⟨⟨_, rfl, .inl rfl⟩, (Below.refl _ _).alloc (Nat.le_refl _) _⟩)
  by_cases k4 : left - k.size - t.size - f.size - o.size < 0
  · go_enter Tryd.func4, Tryd.ntmps4
    go_wp2
    all_goals (go_ret; exact ⟨⟨_, rfl, .inl rfl⟩, (Below.refl _ _).alloc (Nat.le_refl _) _⟩)
  by_cases k5 : left - k.size - t.size - f.size - o.size - b.size < 0
  · go_enter Tryd.func4, Tryd.ntmps4
    go_wp2
    all_goals (go_ret; exact ⟨⟨_, rfl, .inl rfl⟩, (Below.refl _ _).alloc (Nat.le_refl _) _⟩)
  go_enter Tryd.func4, Tryd.ntmps4
  go_wp2
  all_goals (go_ret; exact ⟨⟨_, rfl, .inr ⟨by omega, rfl⟩⟩, (Below.refl _ _).alloc (Nat.le_refl _) _⟩)
set_option maxHeartbeats 1000000 in
theorem to_st (k t f o : ByteArray) (n : Int) (b : ByteArray) (w : World) :
    Calls Tryd.prog 6 #[.agg #[.string k, .string t, .string f, .string o, .int .i64 n, .string b]] w fun e w' => e = .returned (.agg #[.string k, .string t, .string f, .string o, .int .i64 n, .string b]) ∧ Below w.heap.size w w' := by
  go_enter Tryd.func6, Tryd.ntmps6
  go_wp2
  exact bodyPost_ret (v := .agg #[.string k, .string t, .string f, .string o, .int .i64 n, .string b]) (by simp [results, Tryd.results6, go_sem]) rfl ⟨rfl, (((Below.refl _ _).alloc (Nat.le_refl _) _).alloc (by simp) _).alloc (by simp; omega) _⟩
end Go.Proofs.YtihjgkicmgomcaaDoor
