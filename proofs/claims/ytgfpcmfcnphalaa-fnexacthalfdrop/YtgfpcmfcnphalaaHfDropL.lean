/- FnExactHalfDrop's walk. -/
import Derived.Test.YtgfpcmfcnphalaaHfOutL
import Derived.Test.YtgfpcmfcnphalaaHfDrop
namespace Go.Proofs.Ytgfpcmfcnphalaa
set_option linter.unusedSimpArgs false
set_option linter.unusedVariables false
open Go.RowKit Go.Joins

set_option maxRecDepth 100000 in
set_option maxHeartbeats 2000000 in
theorem hfdropl_law (h : HfL) (w : World) :
    Calls Try.prog 11 #[hfL h] w fun e w' => e = .returned (.bool true) ∧ Below w.heap.size w w' := by
  obtain ⟨R, hR⟩ : ∃ R, dropR h = R := ⟨_, rfl⟩
  have hRL : R.s.length ≤ 1000000 := by
    rw [← hR]
    exact Nat.le_trans (dropR_len h) (by decide)
  have i2 := fun W => to_half h W
  have i3 := fun W => spec_drop h W
  have i4 := fun W => impl_drop h W
  rw [hR] at i3 i4
  unfold HoIs at i3 i4
  have j1 := fun p q k l W hp hq => eq_outH R p q k l W (by omega) hp hq
  have j2 := fun p k B W hB h => mark_outH R p k B W hRL hB h
  have j3 := fun p k B W h => held_outH R p k B W hRL h
  have HX := Lib.hid (hfbox_start w h)
  have hpos : ¬ ((1 : Int) + R.s.length * 2 < 0) := by omega
  clear hR hRL
  go_enter Try.func11, Try.ntmps11
  go_wp2_with (first
    | (go_at_call 33; have _ := HX10; go_fit (j3 p8 k8 w3.heap.size _ H810.out.2); rintro e w11 ⟨rfl, hb⟩; have HX11 := Lib.hid (HX10.out.on hb); clear hb)
    | (go_at_call 31; have _ := HX9; go_fit (j1 p12 p6 k12 k6 _ (row_ownH (HV12.out.alloc _)) (row_ownH (H69.out.2.alloc _))); rintro e w10 ⟨rfl, hb⟩; have HX10 := Lib.hid ((HX9.out.on ((Below.refl _ _).alloc (Nat.le_refl _) _)).on hb); have H810 := Lib.hid (And.intro (arr_belowH (arr_belowH H89.out.1 ((Below.refl _ _).alloc (Nat.le_refl _) _)) hb) ((H89.out.2.on ((Below.refl _ _).alloc (Nat.le_refl _) _)).on hb)); clear hb; obtain ⟨e0, e1, e2, e3, e4, e5, e6⟩ := ho_cells H810.out.1; have hz8 := arr_ltH H810.out.1)
    | (go_at_call 24; have _ := HX8; go_fit (i4 _); rintro e w9 ⟨⟨p12, k12, rfl, hv⟩, hb⟩; have HX9 := Lib.hid (HX8.out.on hb); have H69 := Lib.hid (H68.out.on hb); have H89 := Lib.hid (And.intro (arr_belowH H88.out.1 hb) (H88.out.2.on hb)); have HV12 := Lib.hid hv; clear hb hv; obtain ⟨a0, a1, a2, a3, a4, a5, a6⟩ := ho_cells H69.out.1; have hz6 := arr_ltH H69.out.1; obtain ⟨e0, e1, e2, e3, e4, e5, e6⟩ := ho_cells H89.out.1; have hz8 := arr_ltH H89.out.1)
    | (go_at_call 30; have _ := HX7; go_fit (i2 _); rintro e w8 ⟨rfl, hb⟩; have HX8 := Lib.hid (HX7.out.on hb); have H68 := Lib.hid (H67.out.on hb); have H88 := Lib.hid (And.intro (arr_belowH H87.out.1 hb) (H87.out.2.on hb)); clear hb)
    | (go_at_call 33; have _ := HX6; go_fit (j3 p8 k8 w3.heap.size _ H86.out.2); rintro e w7 ⟨rfl, hb⟩; have HX7 := Lib.hid (HX6.out.on hb); have H67 := Lib.hid (H66.out.on hb); have H87 := Lib.hid (And.intro (arr_belowH H86.out.1 hb) (H86.out.2.on hb)); clear hb; obtain ⟨⟨c0, c1, c2, c3, c4⟩, _⟩ := hf_cells HX7.out.1; have hzA := arr_ltH HX7.out.1)
    | (go_at_call 32; have _ := HX5; go_fit (j2 p8 k8 w3.heap.size _ (by have := HZ5.out; omega) H85.out.2); rintro e w6 ⟨rfl, hM, hF⟩; have HX6 := Lib.hid (HX5.out.mark hF HZ3.out); have H66 := Lib.hid (H65.out.low hF (by have := HZ2.out; omega) (fun g hg => by have := (own_ltH HV6.out g hg).2; have := HZ2.out; omega)); have H86 := Lib.hid (And.intro (hF.arr H85.out.1 (own_neH H85.out.2 H85.out.1)) hM); clear hM hF; obtain ⟨e0, e1, e2, e3, e4, e5, e6⟩ := ho_cells H86.out.1; have hz8 := arr_ltH H86.out.1)
    | (go_at_call 31; have _ := HX4; go_fit (j1 p8 p6 k8 k6 _ (row_ownH (HV8.out.alloc _)) (row_ownH (H64.out.2.alloc _))); rintro e w5 ⟨rfl, hb⟩; have HX5 := Lib.hid ((HX4.out.on ((Below.refl _ _).alloc (Nat.le_refl _) _)).on hb); have H65 := Lib.hid ((H64.out.on ((Below.refl _ _).alloc (Nat.le_refl _) _)).on hb); have H85 := Lib.hid ((OutH.new HV8.out).on hb); have HZ5 : Hid (w3.heap.size ≤ w5.heap.size) := Lib.hid (Nat.le_trans HZ4.out (Nat.le_trans (by simp) hb.size)); clear hb; obtain ⟨e0, e1, e2, e3, e4, e5, e6⟩ := ho_cells H85.out.1; have hz8 := arr_ltH H85.out.1)
    | (go_at_call 24; have _ := HX3; go_fit (i4 _); rintro e w4 ⟨⟨p8, k8, rfl, hv⟩, hb⟩; have HX4 := Lib.hid (HX3.out.on hb); have H64 := Lib.hid (H63.out.on hb); have HV8 := Lib.hid hv; have HZ4 : Hid (w3.heap.size ≤ w4.heap.size) := Lib.hid hb.size; clear hb hv; obtain ⟨a0, a1, a2, a3, a4, a5, a6⟩ := ho_cells H64.out.1; have hz6 := arr_ltH H64.out.1)
    | (go_at_call 30; have _ := HX2; go_fit (i2 _); rintro e w3 ⟨rfl, hb⟩; have HX3 := Lib.hid ((HX2.out.on ((Below.refl _ _).alloc (Nat.le_refl _) _)).on hb); have H63 := Lib.hid ((OutH.new HV6.out).on hb); have HZ2 : Hid (w2.heap.size < w3.heap.size) := Lib.hid (Nat.lt_of_lt_of_le (by simp) hb.size); have HZ3 : Hid (w.heap.size < w3.heap.size) := Lib.hid (arr_ltH HX3.out.1); clear hb)
    | (go_at_call 25; have _ := HX1; go_fit (i3 _); rintro e w2 ⟨⟨p6, k6, rfl, hv⟩, hb⟩; have HX2 := Lib.hid (HX1.out.on hb); have HV6 := Lib.hid hv; clear hb hv; obtain ⟨⟨c0, c1, c2, c3, c4⟩, _⟩ := hf_cells HX2.out.1; have hzA := arr_ltH HX2.out.1)
    | (go_at_call 30; go_fit (i2 _); rintro e w1 ⟨rfl, hb⟩; have HX1 := Lib.hid (HX.out.on hb); clear hb))
  go_ret
  exact ⟨rfl, HX11.out.2⟩
end Go.Proofs.Ytgfpcmfcnphalaa
