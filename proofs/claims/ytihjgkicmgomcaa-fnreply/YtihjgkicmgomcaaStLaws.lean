/- FnExactStanzaRight's walk. -/
import Derived.Test.YtihjgkicmgomcaaStRightS
import Derived.Test.YtihjgkicmgomcaaStLawBits
import Derived.Test.YtihjgkicmgomcaaStFrame
namespace Go.Proofs.Ytihjgkicmgomcaa
set_option linter.unusedSimpArgs false
set_option linter.unusedVariables false
open Go.RowKit

theorem le_max {n : Nat} {z : Int} (h : z = -1 ∨ 0 ≤ z ∧ z = 1048576 - n) (hz : 0 ≤ z) : n ≤ 1048576 := by omega
set_option maxRecDepth 100000 in
set_option maxHeartbeats 2000000 in
theorem stright_law (w : World) (K0 T0 F0 O0 : ByteArray) (I0 : Int) (B0 : ByteArray) (x0 : K0.size ≤ maxLen ∧ T0.size ≤ maxLen ∧ F0.size ≤ maxLen ∧ O0.size ≤ maxLen ∧ (Lit.int .i64 I0).wf = true ∧ B0.size ≤ maxLen) (hm : MaxL w) :
    Calls Try.prog 5 #[.agg #[.string K0, .string T0, .string F0, .string O0, .int .i64 I0, .string B0]] w fun e w' => e = .returned (.bool true) ∧ Below w.heap.size w w' := by
  obtain ⟨xk, xt, xf, xo, xi, xb⟩ := x0
  have HK := Lib.hid (fun w1 (h : Below (w.alloc (.cells #[.string K0, .string T0, .string F0, .string O0, .int .i64 I0, .string B0] 37)).heap.size (w.alloc (.cells #[.string K0, .string T0, .string F0, .string O0, .int .i64 I0, .string B0] 37)) w1) => (box_six h).1)
  have HM := Lib.hid (fun w1 (h : Below (w.alloc (.cells #[.string K0, .string T0, .string F0, .string O0, .int .i64 I0, .string B0] 37)).heap.size (w.alloc (.cells #[.string K0, .string T0, .string F0, .string O0, .int .i64 I0, .string B0] 37)) w1) => hm.below (below_one h) hm.pos)
  have i1 := fun w hf ho => spec_stright K0 T0 F0 O0 I0 B0 w xt hf ho xb
  have i2 := fun w => impl_stright K0 T0 F0 O0 I0 B0 w xt xf xo xb
  obtain ⟨v, hv⟩ : ∃ v, stB K0 T0 F0 O0 I0 B0 = v := ⟨_, rfl⟩
  rw [hv] at i1 i2
  clear hv hm xi
  unfold maxLen at xk xt xf xo xb
  go_enter Try.func5, Try.ntmps5
  go_wp2_with (first
    | (go_at_call 22; go_fit (sz_st K0 T0 F0 O0 B0 I0 _ _ xk xt xf xo xb (by omega) (by omega)); rintro e w1 ⟨⟨z, rfl, hz⟩, hb⟩; obtain ⟨c0, c1, c2, c3, c4, c5⟩ := HK.out _ hb)
    | (go_at_call 24; go_fit (to_st K0 T0 F0 O0 I0 B0 _); rintro e w2 ⟨rfl, hb2⟩; replace hb := hb.trans (hb2.mono hb.size); clear hb2; obtain ⟨c0, c1, c2, c3, c4, c5⟩ := HK.out _ hb)
    | (go_at_call 23; go_fit (i1 _ (by omega) (by omega)); rintro e w2 ⟨rfl, hb2⟩; replace hb := hb.trans (hb2.mono hb.size); clear hb2; obtain ⟨c0, c1, c2, c3, c4, c5⟩ := HK.out _ hb)
    | (go_at_call 25; go_fit (i2 _ (HM.out _ hb)); rintro e w2 ⟨rfl, hb2⟩; replace hb := hb.trans (hb2.mono hb.size); clear hb2; obtain ⟨c0, c1, c2, c3, c4, c5⟩ := HK.out _ hb))
  all_goals
    go_ret
    exact ⟨rfl, below_one hb⟩
end Go.Proofs.Ytihjgkicmgomcaa
