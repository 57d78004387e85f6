/- FnExactReply's and FnExactFault's walks. -/
import Derived.Test.YtihjgkicmgomcaaStFault
import Derived.Test.YtihjgkicmgomcaaStLaws
namespace Go.Proofs.Ytihjgkicmgomcaa
set_option linter.unusedSimpArgs false
set_option linter.unusedVariables false
open Go.RowKit

set_option maxRecDepth 100000 in
set_option maxHeartbeats 2000000 in
theorem reply_law (w : World) (K0 T0 F0 O0 : ByteArray) (I0 : Int) (B0 : ByteArray) (x0 : K0.size ≤ maxLen ∧ T0.size ≤ maxLen ∧ F0.size ≤ maxLen ∧ O0.size ≤ maxLen ∧ (Lit.int .i64 I0).wf = true ∧ B0.size ≤ maxLen) (a1 : ByteArray) (w1 : a1.size ≤ maxLen) (a2 : ByteArray) (w2 : a2.size ≤ maxLen) (hm : MaxL w) :
    Calls Try.prog 8 #[.agg #[.string K0, .string T0, .string F0, .string O0, .int .i64 I0, .string B0], .string a1, .string a2] w fun e w' => e = .returned (.bool true) ∧ Below w.heap.size w w' := by
  obtain ⟨xk, xt, xf, xo, xi, xb⟩ := x0
  have HK := Lib.hid (fun w1 (h : Below (w.alloc (.cells #[.string K0, .string T0, .string F0, .string O0, .int .i64 I0, .string B0] 37)).heap.size (w.alloc (.cells #[.string K0, .string T0, .string F0, .string O0, .int .i64 I0, .string B0] 37)) w1) => (box_six h).1)
  have HM := Lib.hid (fun w1 (h : Below (w.alloc (.cells #[.string K0, .string T0, .string F0, .string O0, .int .i64 I0, .string B0] 37)).heap.size (w.alloc (.cells #[.string K0, .string T0, .string F0, .string O0, .int .i64 I0, .string B0] 37)) w1) => hm.below (below_one h) hm.pos)
  have i1 := fun w hf ho => spec_reply K0 T0 F0 O0 I0 B0 a1 a2 w xt hf ho xb w1 w2
  have i2 := fun w hk ht hf ho hb h1 h2 hm => impl_reply K0 T0 F0 O0 I0 B0 a1 a2 w hk ht hf ho hb h1 h2 hm
  obtain ⟨x, y, z, u, m, v, hv⟩ := rep_form K0 T0 F0 O0 I0 B0 a1 a2
  rw [hv] at i1 i2
  unfold stV at i1 i2
  clear hv hm xi
  have i3 := fun w => eq_st x y z u m v w
  unfold maxLen at xk xt xf xo xb w1 w2
  by_cases g1 : 1048576 < a1.size
  · clear i1 i2 i3
    go_enter Try.func8, Try.ntmps8
    go_wp2
    go_ret
    exact ⟨rfl, (Below.refl _ _).alloc (Nat.le_refl _) _⟩
  by_cases g2 : 1048576 < a2.size
  · clear i1 i2 i3
    go_enter Try.func8, Try.ntmps8
    go_wp2
    go_ret
    exact ⟨rfl, (Below.refl _ _).alloc (Nat.le_refl _) _⟩
  go_enter Try.func8, Try.ntmps8
  go_wp2_with (first
    | (go_at_call 22; go_fit (sz_st K0 T0 F0 O0 B0 I0 _ _ xk xt xf xo xb (by omega) (by omega)); rintro e w1 ⟨⟨q, rfl, hz⟩, hb⟩; obtain ⟨c0, c1, c2, c3, c4, c5⟩ := HK.out _ hb)
    | (go_at_call 24; go_fit (to_st K0 T0 F0 O0 I0 B0 _); rintro e w2 ⟨rfl, hb2⟩; replace hb := hb.trans (hb2.mono hb.size); clear hb2; obtain ⟨c0, c1, c2, c3, c4, c5⟩ := HK.out _ hb)
    | (go_at_call 24; go_fit (to_st K0 T0 F0 O0 I0 B0 _); rintro e w2 ⟨rfl, hb2⟩; have hA : Arr w2 w3.heap.size 30 [.string x, .string y, .string z, .string u, .int .i64 m, .string v] := arr_below (Arr.fresh w3 _ _) hb2; replace hb := hb.trans ((below_one hb2).mono hb.size); clear hb2; obtain ⟨c0, c1, c2, c3, c4, c5⟩ := HK.out _ hb)
    | (go_at_call 18; go_fit (i1 _ (by omega) (by omega)); rintro e w3 ⟨rfl, hb2⟩; replace hb := hb.trans (hb2.mono hb.size); clear hb2; obtain ⟨c0, c1, c2, c3, c4, c5⟩ := HK.out _ hb; have hl0 := lt_of_cellJ c0)
    | (go_at_call 17; go_fit (i2 _ (by omega) (by omega) (by omega) (by omega) (by omega) (by omega) (by omega) (HM.out _ hb)); rintro e w4 ⟨rfl, hb2⟩; replace hA := arr_below hA hb2; have hlt := arr_lt hA; obtain ⟨⟨k0, k1, k2, k3, k4, k5⟩, _⟩ := arr_six hA; replace hb := hb.trans (hb2.mono hb.size); clear hb2; obtain ⟨c0, c1, c2, c3, c4, c5⟩ := HK.out _ hb)
    | (go_at_call 27; go_fit (i3 _); rintro e w3 ⟨rfl, hb3⟩; replace hb := hb.trans ((below_one hb3).mono hb.size)))
  all_goals
    go_ret
    exact ⟨rfl, below_one hb⟩
theorem flt_form (k t f o : ByteArray) (n : Int) (b nm : ByteArray) : ∃ x y z u m v, fltV k t f o n b nm = stV x y z u m v := by
  unfold fltV
  split
  · exact ⟨_, _, _, _, _, _, rfl⟩
  · exact rep_form _ _ _ _ _ _ _ _
set_option maxRecDepth 100000 in
set_option maxHeartbeats 2000000 in
theorem fault_law (w : World) (K0 T0 F0 O0 : ByteArray) (I0 : Int) (B0 : ByteArray) (x0 : K0.size ≤ maxLen ∧ T0.size ≤ maxLen ∧ F0.size ≤ maxLen ∧ O0.size ≤ maxLen ∧ (Lit.int .i64 I0).wf = true ∧ B0.size ≤ maxLen) (a1 : ByteArray) (w1 : a1.size ≤ maxLen) (hm : MaxL w) :
    Calls Try.prog 9 #[.agg #[.string K0, .string T0, .string F0, .string O0, .int .i64 I0, .string B0], .string a1] w fun e w' => e = .returned (.bool true) ∧ Below w.heap.size w w' := by
  obtain ⟨xk, xt, xf, xo, xi, xb⟩ := x0
  have HK := Lib.hid (fun w1 (h : Below (w.alloc (.cells #[.string K0, .string T0, .string F0, .string O0, .int .i64 I0, .string B0] 37)).heap.size (w.alloc (.cells #[.string K0, .string T0, .string F0, .string O0, .int .i64 I0, .string B0] 37)) w1) => (box_six h).1)
  have HM := Lib.hid (fun w1 (h : Below (w.alloc (.cells #[.string K0, .string T0, .string F0, .string O0, .int .i64 I0, .string B0] 37)).heap.size (w.alloc (.cells #[.string K0, .string T0, .string F0, .string O0, .int .i64 I0, .string B0] 37)) w1) => hm.below (below_one h) hm.pos)
  have i1 := fun w hf ho => spec_fault K0 T0 F0 O0 I0 B0 a1 w xt hf ho xb w1
  have i2 := fun w hk ht hf ho hb h1 hm => impl_fault K0 T0 F0 O0 I0 B0 a1 w hk ht hf ho hb h1 hm
  obtain ⟨x, y, z, u, m, v, hv⟩ := flt_form K0 T0 F0 O0 I0 B0 a1
  rw [hv] at i1 i2
  unfold stV at i1 i2
  clear hv hm xi
  have i3 := fun w => eq_st x y z u m v w
  unfold maxLen at xk xt xf xo xb w1
  by_cases g1 : 1048576 < a1.size
  · clear i1 i2 i3
    go_enter Try.func9, Try.ntmps9
    go_wp2
    go_ret
    exact ⟨rfl, (Below.refl _ _).alloc (Nat.le_refl _) _⟩
  go_enter Try.func9, Try.ntmps9
  go_wp2_with (first
    | (go_at_call 22; go_fit (sz_st K0 T0 F0 O0 B0 I0 _ _ xk xt xf xo xb (by omega) (by omega)); rintro e w1 ⟨⟨q, rfl, hz⟩, hb⟩; obtain ⟨c0, c1, c2, c3, c4, c5⟩ := HK.out _ hb)
    | (go_at_call 24; go_fit (to_st K0 T0 F0 O0 I0 B0 _); rintro e w2 ⟨rfl, hb2⟩; replace hb := hb.trans (hb2.mono hb.size); clear hb2; obtain ⟨c0, c1, c2, c3, c4, c5⟩ := HK.out _ hb)
    | (go_at_call 24; go_fit (to_st K0 T0 F0 O0 I0 B0 _); rintro e w2 ⟨rfl, hb2⟩; have hA : Arr w2 w3.heap.size 30 [.string x, .string y, .string z, .string u, .int .i64 m, .string v] := arr_below (Arr.fresh w3 _ _) hb2; replace hb := hb.trans ((below_one hb2).mono hb.size); clear hb2; obtain ⟨c0, c1, c2, c3, c4, c5⟩ := HK.out _ hb)
    | (go_at_call 21; go_fit (i1 _ (by omega) (by omega)); rintro e w3 ⟨rfl, hb2⟩; replace hb := hb.trans (hb2.mono hb.size); clear hb2; obtain ⟨c0, c1, c2, c3, c4, c5⟩ := HK.out _ hb; have hl0 := lt_of_cellJ c0)
    | (go_at_call 20; go_fit (i2 _ (by omega) (by omega) (by omega) (by omega) (by omega) (by omega) (HM.out _ hb)); rintro e w4 ⟨rfl, hb2⟩; replace hA := arr_below hA hb2; have hlt := arr_lt hA; obtain ⟨⟨k0, k1, k2, k3, k4, k5⟩, _⟩ := arr_six hA; replace hb := hb.trans (hb2.mono hb.size); clear hb2; obtain ⟨c0, c1, c2, c3, c4, c5⟩ := HK.out _ hb)
    | (go_at_call 27; go_fit (i3 _); rintro e w3 ⟨rfl, hb3⟩; replace hb := hb.trans ((below_one hb3).mono hb.size)))
  all_goals
    go_ret
    exact ⟨rfl, below_one hb⟩
end Go.Proofs.Ytihjgkicmgomcaa
