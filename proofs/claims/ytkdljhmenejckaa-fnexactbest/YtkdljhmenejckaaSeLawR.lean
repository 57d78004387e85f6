/- FnExactSessionsRight's and FnExactAnyone's walks. -/
import Derived.Test.YtkdljhmenejckaaSeRightS
import Derived.Test.YtkdljhmenejckaaArSession
import Derived.Test.YtkdljhmenejckaaEqSession
import Derived.Test.YtkdljhmenejckaaSeFrame
namespace Go.Proofs.Ytkdljhmenejckaa
set_option linter.unusedSimpArgs false
set_option linter.unusedVariables false
open Go.RowKit Go.Joins

theorem row_ownS {W : World} {B : Nat} {p : Option Addr} {k n : Nat} {xs : List SeL} (h : OwnC seC W B 42 4 (.slice p n k) xs) : RowC seC 4 W p xs := by
  obtain ⟨p', k', e, hR⟩ := h.row seC_len
  injection e with e1 e2 e3
  rw [e1]
  exact hR
theorem own_lenS {W : World} {B : Nat} {v : Value} {xs : List SeL} (h : OwnC seC W B 42 4 v xs) : ∃ p k, v = .slice p xs.length k := by
  obtain ⟨p', k', e, hR⟩ := h.row seC_len
  exact ⟨p', k', e⟩
/-- The small contracts on the argument. -/
theorem sz_arg {w : World} {a : Option Addr} {len cap : Nat} {xs : List SeL} (x0 : SsArg w a len xs) (W : World) (hb : Below w.heap.size w W) :
    Calls Try.prog 34 #[.slice a len cap, .int .i64 1048576] W fun e w' => (∃ z, e = .returned (.int .i64 z) ∧ (z = -1 ∨ 0 ≤ z ∧ len ≤ 1048576 ∧ (∀ x ∈ xs, x.r.size ≤ 1048576 ∧ x.s.size ≤ 1048576))) ∧ Below W.heap.size W w' := by
  obtain ⟨rfl, h2, h3, h4⟩ := x0
  refine (szs_se xs a cap 1048576 W (by unfold maxLen at h2; omega) (fun x hx => ?_) (by omega) (by omega) (h4.below hb)).mono ?_
  · have := h3 x hx
    unfold SeL.wf maxLen at this
    exact ⟨by omega, by omega⟩
  · rintro e w' ⟨⟨z, rfl, hz⟩, hb'⟩
    refine ⟨⟨z, rfl, ?_⟩, hb'⟩
    rcases hz with h | ⟨h5, h6, h7, h8⟩
    · exact .inl h
    · exact .inr ⟨h5, by omega, fun x hx => by have := h8 x hx; unfold Le_se at this; omega⟩
theorem to_arg {w : World} {a : Option Addr} {len cap : Nat} {xs : List SeL} (x0 : SsArg w a len xs) (hl : len ≤ 1048576) (W : World) (hb : Below w.heap.size w W) :
    Calls Try.prog 35 #[.slice a len cap] W fun e w' => (∃ p k, e = .returned (.slice p len k) ∧ OwnC seC w' W.heap.size 42 4 (.slice p len k) xs) ∧ Below W.heap.size W w' := by
  obtain ⟨rfl, h2, h3, h4⟩ := x0
  refine (tos_se xs a cap W hl (h4.below hb)).mono ?_
  rintro e w' ⟨⟨v, rfl, ho⟩, hb'⟩
  obtain ⟨p, k, rfl⟩ := own_lenS ho
  exact ⟨⟨p, k, rfl, ho⟩, hb'⟩
theorem se_max {xs : List SeL} (h : ∀ x ∈ xs, x.r.size ≤ 1048576 ∧ x.s.size ≤ 1048576) : ∀ x ∈ xs, x.r.size ≤ maxLen := fun x hx => by have := (h x hx).1; unfold maxLen; omega
end Go.Proofs.Ytkdljhmenejckaa
