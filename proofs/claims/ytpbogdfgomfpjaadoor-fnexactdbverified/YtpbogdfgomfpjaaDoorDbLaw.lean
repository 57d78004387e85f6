/- The walks of FnExactDialbackRight and FnExactDbTrusts. -/
import Derived.Test.YtpbogdfgomfpjaaDoorDbTrust
namespace Go.Proofs.YtpbogdfgomfpjaaDoor
set_option linter.unusedSimpArgs false
set_option linter.unusedVariables false
open Go.RowKit

/-- The argument's box. -/
def DBox (w W : World) (c : List Value) : Prop := Arr W w.heap.size 54 c ∧ Below w.heap.size w W
theorem DBox.on {w W W2 : World} {c : List Value} (h : DBox w W c) (hb : Below W.heap.size W W2) : DBox w W2 c := ⟨arr_below h.1 hb, h.2.trans (hb.mono h.2.size)⟩
theorem dbox_start (w : World) (a b c : Value) : DBox w (w.alloc (.cells #[a, b, c] 54)) [a, b, c] := ⟨Arr.fresh w _ _, (Below.refl _ _).alloc (Nat.le_refl _) _⟩
theorem row_pr_of {W : World} {B : Nat} {p : Option Addr} {k n : Nat} {xs : List PrL} (h : OwnC prC W B 50 4 (.slice p n k) xs) : RowC prC 4 W p xs := by
  obtain ⟨p', k', e, hR⟩ := h.row prC_len
  injection e with e1 e2 e3
  rw [e1]
  exact hR
theorem le_wf {ps : List PrL} (h : ∀ x ∈ ps, Le_pr 1048576 x) : ∀ x ∈ ps, x.d.size ≤ maxLen ∧ x.k.size ≤ maxLen := fun x hx => by
  obtain ⟨h1, h2⟩ := h x hx
  unfold maxLen
  exact ⟨by omega, by omega⟩
end Go.Proofs.YtpbogdfgomfpjaaDoor
