/- What FnBest draws. -/
import Derived.Test.YtkdljhmenejckaaSeDraw2
namespace Go.Proofs.Ytkdljhmenejckaa
set_option linter.unusedSimpArgs false
set_option linter.unusedVariables false
open Go.RowKit Go.Joins

/-- Drawn sessions. -/
def SeD (B : Nat) (e : Ending) (W : World) : Prop := ∃ xs p k, e = .returned (.slice p xs.length k) ∧ OwnC seC W B 42 4 (.slice p xs.length k) xs ∧ xs.length ≤ 6 ∧ ∀ x ∈ xs, x.r.size ≤ 100 ∧ x.s.size ≤ 100
set_option maxRecDepth 100000 in
set_option maxHeartbeats 1000000 in
theorem draw_best (a : Option Addr) (len cap : Nat) (w : World) (hlen : len ≤ 1048576) (hrow : SrcRow w w.heap.size a len) :
    Calls Try.prog 29 #[.slice a len cap] w fun e w' => SeD w.heap.size e w' ∧ Below w.heap.size w w' := by
  have HR := Lib.hid hrow
  clear hrow
  go_enter Try.func29, Try.ntmps29
  go_wp2_with fail
  refine (src_source a len cap _ hlen HR.out).mono ?_
  rintro e w1 ⟨rfl, hS1, hb1⟩
  have HS1 := Lib.hid hS1
  have HB1 := Lib.hid hb1
  clear hS1 hb1
  go_wp2_with fail
  refine (draw_sess w.heap.size w.heap.size w1 HS1.out).mono ?_
  rintro e w2 ⟨xs, p, k, rfl, hs, hl, hw⟩
  have HB2 := Lib.hid (below_grown HB1.out HB1.out.size hs.2.1 (Nat.le_refl _))
  have HO2 := Lib.hid (hs.2.2.mono HB1.out.size)
  clear hs
  go_wp2_with fail
  go_ret
  exact ⟨⟨xs, p, k, rfl, HO2.out, hl, hw⟩, HB2.out⟩
end Go.Proofs.Ytkdljhmenejckaa
