/- impl.Best. -/
import Derived.Test.YtkdljhmenejckaaSeSel
namespace Go.Proofs.Ytkdljhmenejckaa
set_option linter.unusedSimpArgs false
set_option linter.unusedVariables false
open Go.RowKit Go.Joins

set_option maxRecDepth 100000 in
set_option maxHeartbeats 4000000 in
theorem impl_best (xs : List SeL) (p0 : Option Addr) (c : Nat) (w : World) (hn : xs.length ≤ 1048576) (hw : ∀ x ∈ xs, x.r.size ≤ maxLen) (hw2 : ∀ x ∈ xs, x.r.size ≤ 1048576 ∧ x.s.size ≤ 1048576) (hR : RowC seC 4 w p0 xs) :
    Calls Try.prog 30 #[.slice p0 xs.length c] w fun e w' => StIs w.heap.size (bestR xs) e w' ∧ Below w.heap.size w w' := by
  have i1 := impl_seright xs p0 c w hn hw hR
  unfold bestR
  by_cases hk : okB xs = true
  rotate_left
  · rw [if_neg hk]
    rw [show okB xs = false by simpa using hk] at i1
    clear hk hw hw2 hR
    go_enter Try.func30, Try.ntmps30
    go_wp2_with (go_at_call 27; go_fit i1; rintro e w1 ⟨rfl, hb⟩)
    go_ret
    exact ⟨⟨none, 0, rfl, ownC_nil _ _ _ _ _⟩, hb⟩
  rw [if_pos hk]
  rw [hk] at i1
  have h5 := (okB_iff.1 hk).1
  have i2 := fun W h => impl_besttest xs p0 c W hn h
  obtain ⟨M, hM⟩ : ∃ M, mxA 0 xs = M := ⟨_, rfl⟩
  rw [hM] at i2 ⊢
  have i3 := fun W b0 hc hR => resof_best xs p0 c W M b0 hc (by omega) hw2 hR
  unfold StIs at i3
  have HP := Lib.hid (fun W (h : Below w.heap.size w W) => hR.on h)
  clear hM hk hR
  obtain ⟨n, hxn⟩ : ∃ n, xs.length = n := ⟨_, rfl⟩
  rw [hxn] at i1 i2 i3 hn h5 ⊢
  clear hw hw2 hxn
  go_enter Try.func30, Try.ntmps30
  go_wp2_with (first
    | (go_at_call 27; go_fit i1; rintro e w1 ⟨rfl, hb⟩; have HB1 := Lib.hid hb; clear hb)
    | (go_at_call 78; go_fit (i2 _ (HP.out _ HB1.out)); rintro e w2 ⟨rfl, hc2, hb⟩; have HB2 := Lib.hid (HB1.out.trans (hb.mono HB1.out.size)); have HC2 := Lib.hid hc2; clear hb hc2)
    | (go_at_call 77; go_fit (i3 _ _ HC2.out (HP.out _ HB2.out)); rintro e w3 ⟨⟨p3, k3, rfl, hv⟩, hb⟩; have HB3 := Lib.hid (HB2.out.trans (hb.mono HB2.out.size)); have HV3 := Lib.hid (hv.mono HB2.out.size); clear hb hv))
  go_ret
  exact ⟨⟨p3, k3, rfl, HV3.out⟩, HB3.out⟩
end Go.Proofs.Ytkdljhmenejckaa
