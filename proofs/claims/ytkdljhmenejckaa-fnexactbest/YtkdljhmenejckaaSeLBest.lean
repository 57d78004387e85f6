/- FnExactBest's walk. -/
import Derived.Test.YtkdljhmenejckaaSeOutL
import Derived.Test.YtkdljhmenejckaaSeBestS
namespace Go.Proofs.Ytkdljhmenejckaa
set_option linter.unusedSimpArgs false
set_option linter.unusedVariables false
open Go.RowKit Go.Joins

theorem bestR_len (xs : List SeL) : (bestR xs).length ≤ 5 := by
  unfold bestR
  split
  · rename_i h
    have := best_len (mxA 0 xs) xs
    have := (okB_iff.1 h).1
    omega
  · exact Nat.zero_le _
theorem mark_strs (R : List ByteArray) (p : Option Addr) (k B : Nat) (w : World) (hn : R.length ≤ 5) (hB : B ≤ w.heap.size) (h : OwnC strC w B 9 1 (.slice p R.length k) R) :
    Calls Try.prog 39 #[.slice p R.length k, .int .i64 1] w fun e w' => e = .returned (.int .i64 (1 + R.length)) ∧ MOwn mk_ss 1 B 9 1 (.slice p R.length k) R.length w' ∧ MFrame B (.slice p R.length k) w w' :=
  marks_ss B 1 (.slice p R.length k) R w (by decide) (by decide) (by omega) hB h
theorem held_strs (R : List ByteArray) (p : Option Addr) (k B : Nat) (w : World) (hn : R.length ≤ 5) (h : MOwn mk_ss 1 B 9 1 (.slice p R.length k) R.length w) :
    Calls Try.prog 40 #[.slice p R.length k, .int .i64 1] w fun e w' => e = .returned (.int .i64 (1 + R.length)) ∧ Below w.heap.size w w' :=
  helds_ss B 1 R.length (.slice p R.length k) w (by decide) (by decide) (by omega) h
set_option maxRecDepth 100000 in
set_option maxHeartbeats 4000000 in
theorem best_law (w : World) (a : Option Addr) (len cap : Nat) (xs : List SeL) (x0 : SsArg w a len xs) :
    Calls Try.prog 5 #[.slice a len cap] w fun e w' => e = .returned (.bool true) ∧ Below w.heap.size w w' := by
  have HX := Lib.hid x0
  have i1 := fun W hb => sz_arg (cap := cap) HX.out W hb
  have i2 := fun (hl : len ≤ 1048576) W hb => to_arg (cap := cap) HX.out hl W hb
  have i3 := fun p c W (hl : len ≤ 1048576) (hw : ∀ x ∈ xs, x.r.size ≤ 1048576 ∧ x.s.size ≤ 1048576) hR => spec_best xs p c W (by rw [HX.out.1]; exact hl) (se_max hw) hR
  have i4 := fun p c W (hl : len ≤ 1048576) (hw : ∀ x ∈ xs, x.r.size ≤ 1048576 ∧ x.s.size ≤ 1048576) hR => impl_best xs p c W (by rw [HX.out.1]; exact hl) (se_max hw) hw hR
  have i5 := fun p q c d W (hl : len ≤ 1048576) hp hq => eqs_se xs p q c d W (by rw [HX.out.1]; omega) hp hq
  have i7 := fun p k B W (hl : len ≤ 1048576) hB h => mark_xs xs len HX.out.1 p k B W hl hB h
  rw [HX.out.1] at i3 i4 i5
  have hRl := bestR_len xs
  obtain ⟨R, hRR⟩ : ∃ R, bestR xs = R := ⟨_, rfl⟩
  rw [hRR] at i3 i4 hRl
  unfold StIs at i3 i4
  have j1 := fun p q k l W hp hq => eqs_ss R p q k l W (by omega) hp hq
  have j2 := fun p k B W hB h => mark_strs R p k B W hRl hB h
  have j3 := fun p k B W h => held_strs R p k B W hRl h
  have hpos1 : ¬ ((1 : Int) + len * 4 < 0) := by omega
  have hpos2 : ¬ ((1 : Int) + R.length < 0) := by omega
  clear x0 hRR hRl
  have HB0 : Hid (Below w.heap.size w w) := Lib.hid (Below.refl _ _)
  go_enter Try.func5, Try.ntmps5
  go_wp2_with (first
    | (go_at_call 40; have _ := HB15; go_fit (j3 p8 k8 w4.heap.size _ HM15.out); rintro e w16 ⟨rfl, hb⟩; have HB16 := Lib.hid (HB15.out.trans (hb.mono HB15.out.size)); clear hb)
    | (go_at_call 36; have _ := HB14; go_fit (j1 p14 p6 k14 k6 _ (row_ownT HV14.out) (row_ownT H614.out)); rintro e w15 ⟨rfl, hb⟩; have HB15 := Lib.hid (HB14.out.trans (hb.mono HB14.out.size)); have HM15 := Lib.hid (HM14.out.on hb); clear hb)
    | (go_at_call 30; have _ := HB13; go_fit (i4 p13 k13 _ hz2 hz3 (row_ownS HV13.out)); rintro e w14 ⟨⟨p14, k14, rfl, hv⟩, hb⟩; have HB14 := Lib.hid (HB13.out.trans (hb.mono HB13.out.size)); have HV14 := Lib.hid hv; have H614 := Lib.hid (H613.out.on hb); have HM14 := Lib.hid (HM13.out.on hb); clear hb hv)
    | (go_at_call 35; have _ := HB12; go_fit (i2 hz2 _ HB12.out); rintro e w13 ⟨⟨p13, k13, rfl, hv⟩, hb⟩; have HB13 := Lib.hid (HB12.out.trans (hb.mono HB12.out.size)); have HV13 := Lib.hid hv; have H613 := Lib.hid (H612.out.on hb); have HM13 := Lib.hid (HM12.out.on hb); clear hb hv)
    | (go_at_call 40; have _ := HB11; go_fit (j3 p8 k8 w4.heap.size _ HM11.out); rintro e w12 ⟨rfl, hb⟩; have HB12 := Lib.hid (HB11.out.trans (hb.mono HB11.out.size)); have H612 := Lib.hid (H611.out.on hb); have HM12 := Lib.hid (HM11.out.on hb); clear hb)
    | (go_at_call 39; have _ := HB10; go_fit (j2 p8 k8 w4.heap.size _ HW10.out H810.out); rintro e w11 ⟨rfl, hM, hF⟩; have HB11 := Lib.hid (HB10.out.trans (hF.1.mono HW4.out)); have H611 := Lib.hid (mown_frame hF H610.out (fun x y hx hy => by have := (own_ltT HV8.out x hx).1; have := (own_ltT HV6.out y hy).2; have := HW34.out; omega)); have HM11 := Lib.hid hM; clear hM hF)
    | (go_at_call 36; have _ := HB9; go_fit (j1 p8 p6 k8 k6 _ (row_ownT H89.out) (row_ownT H69.out)); rintro e w10 ⟨rfl, hb⟩; have HB10 := Lib.hid (HB9.out.trans (hb.mono HB9.out.size)); have H610 := Lib.hid (H69.out.on hb); have H810 := Lib.hid (H89.out.on hb); have HW10 : Hid (w4.heap.size ≤ w10.heap.size) := Lib.hid (Nat.le_trans HW9.out hb.size); clear hb)
    | (go_at_call 38; have _ := HB8; go_fit (i7 p7 k7 w3.heap.size _ hz2 (by have := HW8.out; have := HW34.out; omega) HV78.out); rintro e w9 ⟨rfl, hF⟩; have HB9 := Lib.hid (HB8.out.trans (hF.1.mono HW3.out)); have H69 := Lib.hid (mown_frame hF H68.out (fun x y hx hy => by have := (own_ltT HV7.out x hx).1; have := (own_ltT HV6.out y hy).2; omega)); have H89 := Lib.hid (mown_frame hF H88.out (fun x y hx hy => by have := (own_ltT HV7.out x hx).2; have := (own_ltT HV8.out y hy).1; omega)); have HW9 : Hid (w4.heap.size ≤ w9.heap.size) := Lib.hid (Nat.le_trans HW8.out hF.2.1); clear hF)
    | (go_at_call 37; have _ := HB7; go_fit (i5 p7 p9 k7 k9 _ hz2 (row_ownS HV77.out) (row_ownS HV9.out)); rintro e w8 ⟨rfl, hb⟩; have HB8 := Lib.hid (HB7.out.trans (hb.mono HB7.out.size)); have H68 := Lib.hid (H67.out.on hb); have HV78 := Lib.hid (HV77.out.on hb); have H88 := Lib.hid (H87.out.on hb); have HW8 : Hid (w4.heap.size ≤ w8.heap.size) := Lib.hid (Nat.le_trans HW7.out hb.size); clear hb)
    | (go_at_call 35; have _ := HB6; go_fit (i2 hz2 _ HB6.out); rintro e w7 ⟨⟨p9, k9, rfl, hv⟩, hb⟩; have HB7 := Lib.hid (HB6.out.trans (hb.mono HB6.out.size)); have HV9 := Lib.hid hv; have H67 := Lib.hid (H66.out.on hb); have HV77 := Lib.hid (HV76.out.on hb); have H87 := Lib.hid (H86.out.on hb); have HW7 : Hid (w4.heap.size ≤ w7.heap.size) := Lib.hid (Nat.le_trans HW6.out hb.size); clear hb hv)
    | (go_at_call 36; have _ := HB5; go_fit (j1 p8 p6 k8 k6 _ (row_ownT HV8.out) (row_ownT H65.out)); rintro e w6 ⟨rfl, hb⟩; have HB6 := Lib.hid (HB5.out.trans (hb.mono HB5.out.size)); have H66 := Lib.hid (H65.out.on hb); have HV76 := Lib.hid (HV75.out.on hb); have H86 := Lib.hid (HV8.out.on hb); have HW6 : Hid (w4.heap.size ≤ w6.heap.size) := Lib.hid (Nat.le_trans HW5.out hb.size); clear hb)
    | (go_at_call 30; have _ := HB4; go_fit (i4 p7 k7 _ hz2 hz3 (row_ownS HV7.out)); rintro e w5 ⟨⟨p8, k8, rfl, hv⟩, hb⟩; have HB5 := Lib.hid (HB4.out.trans (hb.mono HB4.out.size)); have HV8 := Lib.hid hv; have H65 := Lib.hid (H64.out.on hb); have HV75 := Lib.hid (HV7.out.on hb); have HW5 : Hid (w4.heap.size ≤ w5.heap.size) := Lib.hid hb.size; clear hb hv)
    | (go_at_call 35; have _ := HB3; go_fit (i2 hz2 _ HB3.out); rintro e w4 ⟨⟨p7, k7, rfl, hv⟩, hb⟩; have HB4 := Lib.hid (HB3.out.trans (hb.mono HB3.out.size)); have HV7 := Lib.hid hv; have H64 := Lib.hid (HV6.out.on hb); have HW34 : Hid (w3.heap.size ≤ w4.heap.size) := Lib.hid hb.size; have HW4 : Hid (w.heap.size ≤ w4.heap.size) := Lib.hid HB4.out.size; have HW3 : Hid (w.heap.size ≤ w3.heap.size) := Lib.hid HB3.out.size; clear hb hv)
    | (go_at_call 32; have _ := HB2; go_fit (i3 p2 k2 _ hz2 hz3 (row_ownS HV2.out)); rintro e w3 ⟨⟨p6, k6, rfl, hv⟩, hb⟩; have HB3 := Lib.hid (HB2.out.trans (hb.mono HB2.out.size)); have HV6 := Lib.hid hv; clear hb hv)
    | (go_at_call 35; have _ := HB1; go_fit (i2 hz2 _ HB1.out); rintro e w2 ⟨⟨p2, k2, rfl, hv⟩, hb⟩; have HB2 := Lib.hid (HB1.out.trans (hb.mono HB1.out.size)); have HV2 := Lib.hid hv; clear hb hv)
    | (go_at_call 34; go_fit (i1 _ HB0.out); rintro e w1 ⟨⟨z, rfl, hz⟩, hb1⟩; have HB1 := Lib.hid hb1; clear hb1; rcases hz with rfl | ⟨hz1, hz2, hz3⟩))
  · go_ret
    exact ⟨rfl, HB1.out⟩
  · go_ret
    exact ⟨rfl, HB16.out⟩
end Go.Proofs.Ytkdljhmenejckaa
