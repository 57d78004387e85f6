/- The law of HalfName. -/
import Derived.Test.YtgfpcmfcnphalaaHfName
import Derived.Test.YtgfpcmfcnphalaaHfLawR
namespace Go.Proofs.Ytgfpcmfcnphalaa
set_option linter.unusedSimpArgs false
set_option linter.unusedVariables false
open Go.RowKit

set_option maxHeartbeats 1000000 in
theorem hfname_law (h : HfL) (w : World) : Calls Try.prog 10 #[hfL h] w fun e w' => e = .returned (.bool true) ∧ Below w.heap.size w w' := by
  obtain ⟨b, hb⟩ : ∃ b, nameH h = b := ⟨_, rfl⟩
  have j1 := fun W => spec_name h W
  have j2 := fun W => impl_name h W
  rw [hb] at j1 j2
  have j0 := fun W => to_half h W
  have HX := Lib.hid (hfbox_start w h)
  clear hb
  go_enter Try.func10, Try.ntmps10
  go_wp2_with (first
    | (go_at_call 29; go_fit (j1 _); rintro e w2 ⟨rfl, hb⟩; have HX2 := Lib.hid (HX1.out.on hb); clear hb; obtain ⟨⟨c0, c1, c2, c3, c4⟩, _⟩ := hf_cells HX2.out.1)
    | (go_at_call 28; go_fit (j2 _); rintro e w4 ⟨rfl, hb⟩; have HX4 := Lib.hid (HX3.out.on hb); clear hb)
    | (go_at_call 30; have _ := HX2; go_fit (j0 _); rintro e w3 ⟨rfl, hb⟩; have HX3 := Lib.hid (HX2.out.on hb); clear hb)
    | (go_at_call 30; go_fit (j0 _); rintro e w1 ⟨rfl, hb⟩; have HX1 := Lib.hid (HX.out.on hb); clear hb))
  go_ret
  exact ⟨rfl, HX4.out.2⟩
end Go.Proofs.Ytgfpcmfcnphalaa
