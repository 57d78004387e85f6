/- The small functions of the laws on halves, and the laws of HalfRight, HalfShow. -/
import Derived.Test.YtgfpcmfcnphalaaHfRight
import Derived.Test.YtgfpcmfcnphalaaHfFrame
namespace Go.Proofs.Ytgfpcmfcnphalaa
set_option linter.unusedSimpArgs false
set_option linter.unusedVariables false
open Go.RowKit

/-- The argument's box. -/
def HfBox (w W : World) (h : HfL) : Prop := Arr W w.heap.size 45 (hfC h) ∧ Below w.heap.size w W
theorem HfBox.on {w W W2 : World} {h : HfL} (hx : HfBox w W h) (hb : Below W.heap.size W W2) : HfBox w W2 h :=
  ⟨(hb.block _ (Array.getElem?_eq_some_iff.1 hx.1).1).trans hx.1, hx.2.trans (hb.mono hx.2.size)⟩
theorem hfbox_start (w : World) (h : HfL) : HfBox w (w.alloc (.cells #[.int .i64 h.n, .int .i64 h.o, .int .i64 h.t, .int .i64 h.i, .int .i64 h.f] 45)) h :=
  ⟨Arr.fresh w _ (hfC h), (Below.refl _ _).alloc (Nat.le_refl _) _⟩
set_option maxHeartbeats 1000000 in
theorem to_half (h : HfL) (w : World) : Calls Try.prog 30 #[hfL h] w fun e w' => e = .returned (hfL h) ∧ Below w.heap.size w w' := by
  go_enter Try.func30, Try.ntmps30
  go_wp2
  exact bodyPost_ret (v := hfL h) (by simp [results, Try.results30, go_sem]) rfl ⟨rfl, (((Below.refl _ _).alloc (Nat.le_refl _) _).alloc (by simp) _).alloc (by simp; omega) _⟩
set_option maxHeartbeats 1000000 in
theorem hfright_law (h : HfL) (w : World) : Calls Try.prog 6 #[hfL h] w fun e w' => e = .returned (.bool true) ∧ Below w.heap.size w w' := by
  obtain ⟨b, hb⟩ : ∃ b, decide h.ok = b := ⟨_, rfl⟩
  have j1 := fun W => spec_right h W
  have j2 := fun W => impl_right h W
  rw [hb] at j1 j2
  have j0 := fun W => to_half h W
  have HX := Lib.hid (hfbox_start w h)
  clear hb
  go_enter Try.func6, Try.ntmps6
  go_wp2_with (first
    | (go_at_call 20; go_fit (j1 _); rintro e w2 ⟨rfl, hb⟩; have HX2 := Lib.hid (HX1.out.on hb); clear hb; obtain ⟨⟨c0, c1, c2, c3, c4⟩, _⟩ := hf_cells HX2.out.1)
    | (go_at_call 19; go_fit (j2 _); rintro e w4 ⟨rfl, hb⟩; have HX4 := Lib.hid (HX3.out.on hb); clear hb)
    | (go_at_call 30; have _ := HX2; go_fit (j0 _); rintro e w3 ⟨rfl, hb⟩; have HX3 := Lib.hid (HX2.out.on hb); clear hb)
    | (go_at_call 30; go_fit (j0 _); rintro e w1 ⟨rfl, hb⟩; have HX1 := Lib.hid (HX.out.on hb); clear hb))
  go_ret
  exact ⟨rfl, HX4.out.2⟩
set_option maxHeartbeats 1000000 in
theorem hfshow_law (h : HfL) (w : World) : Calls Try.prog 9 #[hfL h] w fun e w' => e = .returned (.bool true) ∧ Below w.heap.size w w' := by
  obtain ⟨b, hb⟩ : ∃ b, showH h = b := ⟨_, rfl⟩
  have j1 := fun W => spec_show h W
  have j2 := fun W => impl_show h W
  rw [hb] at j1 j2
  have j0 := fun W => to_half h W
  have HX := Lib.hid (hfbox_start w h)
  clear hb
  go_enter Try.func9, Try.ntmps9
  go_wp2_with (first
    | (go_at_call 27; go_fit (j1 _); rintro e w2 ⟨rfl, hb⟩; have HX2 := Lib.hid (HX1.out.on hb); clear hb; obtain ⟨⟨c0, c1, c2, c3, c4⟩, _⟩ := hf_cells HX2.out.1)
    | (go_at_call 26; go_fit (j2 _); rintro e w4 ⟨rfl, hb⟩; have HX4 := Lib.hid (HX3.out.on hb); clear hb)
    | (go_at_call 30; have _ := HX2; go_fit (j0 _); rintro e w3 ⟨rfl, hb⟩; have HX3 := Lib.hid (HX2.out.on hb); clear hb)
    | (go_at_call 30; go_fit (j0 _); rintro e w1 ⟨rfl, hb⟩; have HX1 := Lib.hid (HX.out.on hb); clear hb))
  go_ret
  exact ⟨rfl, HX4.out.2⟩
end Go.Proofs.Ytgfpcmfcnphalaa
