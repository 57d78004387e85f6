/- FnExactStanzaText's walk. -/
import Derived.Test.YtihjgkicmgomcaaDoorStText
import Derived.Test.YtihjgkicmgomcaaDoorStLawBits
import Derived.Test.YtihjgkicmgomcaaDoorStFrame
namespace Go.Proofs.YtihjgkicmgomcaaDoor
set_option linter.unusedSimpArgs false
set_option linter.unusedVariables false
open Go.RowKit

set_option maxRecDepth 100000 in
set_option maxHeartbeats 2000000 in
theorem sttext_law (w : World) (K0 T0 F0 O0 : ByteArray) (I0 : Int) (B0 : ByteArray) (x0 : K0.size ≤ maxLen ∧ T0.size ≤ maxLen ∧ F0.size ≤ maxLen ∧ O0.size ≤ maxLen ∧ (Lit.int .i64 I0).wf = true ∧ B0.size ≤ maxLen) (hm : MaxL w) (hp : TabP w) :
    Calls Tryd.prog 3 #[.agg #[.string K0, .string T0, .string F0, .string O0, .int .i64 I0, .string B0]] w fun e w' => e = .returned (.bool true) ∧ Below w.heap.size w w' := by
  obtain ⟨xk, xt, xf, xo, xi, xb⟩ := x0
  have HK := Lib.hid (fun w1 (h : Below (w.alloc (.cells #[.string K0, .string T0, .string F0, .string O0, .int .i64 I0, .string B0] 23)).heap.size (w.alloc (.cells #[.string K0, .string T0, .string F0, .string O0, .int .i64 I0, .string B0] 23)) w1) => (box_six h).1)
  have HM := Lib.hid (fun w1 (h : Below (w.alloc (.cells #[.string K0, .string T0, .string F0, .string O0, .int .i64 I0, .string B0] 23)).heap.size (w.alloc (.cells #[.string K0, .string T0, .string F0, .string O0, .int .i64 I0, .string B0] 23)) w1) => hm.below (below_one h) hm.pos)
  have HT := Lib.hid (fun w1 (h : Below (w.alloc (.cells #[.string K0, .string T0, .string F0, .string O0, .int .i64 I0, .string B0] 23)).heap.size (w.alloc (.cells #[.string K0, .string T0, .string F0, .string O0, .int .i64 I0, .string B0] 23)) w1) => hp.below (below_one h))
  have i1 := fun w hk ht hf ho hb => spec_sttext K0 T0 F0 O0 I0 B0 w hk ht hf ho hb
  have i2 := fun w hk ht hf ho hb hm hp => impl_sttext K0 T0 F0 O0 I0 B0 w hk ht hf ho hb hm hp
  obtain ⟨v, hv⟩ : ∃ v, stT K0 T0 F0 O0 I0 B0 = v := ⟨_, rfl⟩
  rw [hv] at i1 i2
  clear hv hm hp xi
  unfold maxLen at xk xt xf xo xb
  go_enter Tryd.func3, Tryd.ntmps3
  go_wp2_with (first
    | (go_at_call 4; go_fit (sz_st K0 T0 F0 O0 B0 I0 _ _ xk xt xf xo xb (by omega) (by omega)); rintro e w1 ⟨⟨z, rfl, hz⟩, hb⟩; obtain ⟨c0, c1, c2, c3, c4, c5⟩ := HK.out _ hb)
    | (go_at_call 6; go_fit (to_st K0 T0 F0 O0 I0 B0 _); rintro e w2 ⟨rfl, hb2⟩; replace hb := hb.trans (hb2.mono hb.size); clear hb2; obtain ⟨c0, c1, c2, c3, c4, c5⟩ := HK.out _ hb)
    | (go_at_call 5; go_fit (i1 _ (by omega) (by omega) (by omega) (by omega) (by omega)); rintro e w2 ⟨rfl, hb2⟩; replace hb := hb.trans (hb2.mono hb.size); clear hb2; obtain ⟨c0, c1, c2, c3, c4, c5⟩ := HK.out _ hb)
    | (go_at_call 7; go_fit (i2 _ (by omega) (by omega) (by omega) (by omega) (by omega) (HM.out _ hb) (HT.out _ hb)); rintro e w2 ⟨rfl, hb2⟩; replace hb := hb.trans (hb2.mono hb.size); clear hb2; obtain ⟨c0, c1, c2, c3, c4, c5⟩ := HK.out _ hb))
  all_goals
    go_ret
    exact ⟨rfl, below_one hb⟩
end Go.Proofs.YtihjgkicmgomcaaDoor
