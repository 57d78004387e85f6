/- FnExactBlockDel's walk. -/
import Derived.Test.YtpjmcpfmnlfmdaaBkOutL
import Derived.Test.YtpjmcpfmnlfmdaaBkAdd
import Derived.Test.YtpjmcpfmnlfmdaaBkAddI
namespace Go.Proofs.Ytpjmcpfmnlfmdaa
set_option linter.unusedSimpArgs false
set_option linter.unusedVariables false
open Go.RowKit Go.Joins

theorem blockdel_len (xs : List ByteArray) (r : ByteArray) : (delR xs r).l.length ≤ 1000000 := by
  unfold delR illB
  split
  · exact Nat.zero_le _
  · rename_i h1
    split
    · exact Nat.zero_le _
    · split
      · exact Nat.zero_le _
      · show (xs.take _ ++ xs.drop _).length ≤ _
        rw [List.length_append, List.length_take, List.length_drop]
        omega
set_option maxRecDepth 100000 in
set_option maxHeartbeats 4000000 in
theorem blockdel_law (w : World) (a : Option Addr) (len cap : Nat) (xs : List ByteArray) (x0 : TxArg w a len xs) (r : ByteArray) (wr : r.size ≤ maxLen) (hm : MaxL w) :
    Calls Try.prog 7 #[.slice a len cap, .string r] w fun e w' => e = .returned (.bool true) ∧ Below w.heap.size w w' := by
  unfold maxLen at wr
  by_cases hfr : 1048576 < r.size
  · go_enter Try.func7, Try.ntmps7
    go_wp2
    go_ret
    exact ⟨rfl, Below.refl _ _⟩
  obtain ⟨R, hRR⟩ : ∃ R, delR xs r = R := ⟨_, rfl⟩
  have HRL : Hid (len ≤ 1048576 → R.l.length ≤ 2000000) := Lib.hid (fun h => by rw [← hRR]; have := blockdel_len xs r; omega)
  have HX := Lib.hid x0
  have HM := Lib.hid (fun W (h : Below w.heap.size w W) => hm.below h hm.pos)
  have i1 := fun W hb => sz_argX (cap := cap) HX.out W hb
  have i2 := fun (hl : len ≤ 1048576) W hb => to_argX (cap := cap) HX.out hl W hb
  have i3 := fun p c B W (hl : len ≤ 1048576) (hw : ∀ x ∈ xs, x.size ≤ 1048576) hO => spec_blockdel xs r p c B W (by rw [HX.out.1]; exact hl) (by omega) hw hO
  have i4 := fun p c W (hl : len ≤ 1048576) (hw : ∀ x ∈ xs, x.size ≤ 1048576) hR hm => impl_blockdel xs r p c W (by rw [HX.out.1]; exact hl) (by omega) hw hR hm
  have i5 := fun p q c d W (hl : len ≤ 1048576) hp hq => eqs_ss xs p q c d W (by rw [HX.out.1]; omega) hp hq
  have i7 := fun p k B W (hl : len ≤ 1048576) hB h => mark_xsX xs len HX.out.1 p k B W hl hB h
  rw [HX.out.1] at i3 i4 i5
  rw [hRR] at i3 i4
  unfold BoIs at i3 i4
  have j1 := fun p q k l W hn hp hq => eq_outX R p q k l W hn hp hq
  have j2 := fun p k B W hn hB h => mark_outX R p k B W hn hB h
  have j3 := fun p k B W hn h => held_outX R p k B W hn h
  unfold boV at j1 j2 j3
  clear x0 hRR hm
  have HB0 : Hid (Below w.heap.size w w) := Lib.hid (Below.refl _ _)
  have hpos1 : ¬ ((1 : Int) + len < 0) := by omega
  have hpos2 : ¬ ((1 : Int) + R.l.length < 0) := by omega
  go_enter Try.func7, Try.ntmps7
  go_wp2_with (first
    | (go_at_call 33; have _ := HB15; go_fit (j3 p8 k8 w4.heap.size _ (HRL.out hz2) HM15.out.2); rintro e w16 ⟨rfl, hb⟩; have HB16 := Lib.hid (HB15.out.trans (hb.mono HB15.out.size)); clear hb)
    | (go_at_call 30; have _ := HB14; go_fit (j1 p14 p6 k14 k6 _ (by have := HRL.out hz2; omega) (row_ownX (HV14.out.alloc _)) (row_ownX (H614.out.2.alloc _))); rintro e w15 ⟨rfl, hb⟩; have HB15 := Lib.hid ((HB14.out.alloc HB14.out.size _).trans (hb.mono (HB14.out.alloc HB14.out.size _).size)); have HM15 := Lib.hid (And.intro (arrX_on (arrX_on HM14.out.1 ((Below.refl _ _).alloc (Nat.le_refl _) _)) hb) ((HM14.out.2.on ((Below.refl _ _).alloc (Nat.le_refl _) _)).on hb)); clear hb; obtain ⟨⟨g0, g1⟩, -⟩ := arrX_two HM15.out.1)
    | (go_at_call 15; have _ := HB13; go_fit (i4 p13 k13 _ hz2 hz3 (row_ownX HV13.out) (HM.out _ HB13.out)); rintro e w14 ⟨⟨p14, k14, rfl, hv⟩, hb⟩; have HB14 := Lib.hid (HB13.out.trans (hb.mono HB13.out.size)); have HV14 := Lib.hid hv; have H614 := Lib.hid (H613.out.on hb); have HM14 := Lib.hid (And.intro (arrX_on HM13.out.1 hb) (HM13.out.2.on hb)); clear hb hv; obtain ⟨⟨a0, a1⟩, hl6⟩ := H614.out.two; obtain ⟨⟨g0, g1⟩, -⟩ := arrX_two HM14.out.1; have hl8 := arrX_lt HM14.out.1)
    | (go_at_call 28; have _ := HB12; go_fit (i2 hz2 _ HB12.out); rintro e w13 ⟨⟨p13, k13, rfl, hv⟩, hb⟩; have HB13 := Lib.hid (HB12.out.trans (hb.mono HB12.out.size)); have HV13 := Lib.hid hv; have H613 := Lib.hid (H612.out.on hb); have HM13 := Lib.hid (And.intro (arrX_on HM12.out.1 hb) (HM12.out.2.on hb)); clear hb hv)
    | (go_at_call 33; have _ := HB11; go_fit (j3 p8 k8 w4.heap.size _ (HRL.out hz2) HM11.out.2); rintro e w12 ⟨rfl, hb⟩; have HB12 := Lib.hid (HB11.out.trans (hb.mono HB11.out.size)); have H612 := Lib.hid (H611.out.on hb); have HM12 := Lib.hid (And.intro (arrX_on HM11.out.1 hb) (HM11.out.2.on hb)); clear hb)
    | (go_at_call 32; have _ := HB10; go_fit (j2 p8 k8 w4.heap.size _ (HRL.out hz2) (by have := HW10.out; omega) H810.out.2); rintro e w11 ⟨rfl, hM, hF⟩; have HB11 := Lib.hid (HB10.out.trans (hF.1.mono HW4.out)); have H611 := Lib.hid (H610.out.mark hF H810.out.2 (fun x y hx hy => by have := (own_ltX HV8.out x hx).1; have := (own_ltX HV6.out y hy).2; have := HW34.out; omega)); have HM11 := Lib.hid (And.intro (hF.arr H810.out.1 (own_neX H810.out.2 H810.out.1)) hM); clear hM hF; obtain ⟨⟨g0, g1⟩, -⟩ := arrX_two HM11.out.1)
    | (go_at_call 30; have _ := HB9; go_fit (j1 p8 p6 k8 k6 _ (by have := HRL.out hz2; omega) (row_ownX H89.out.2) (row_ownX H69.out.2)); rintro e w10 ⟨rfl, hb⟩; have HB10 := Lib.hid (HB9.out.trans (hb.mono HB9.out.size)); have H610 := Lib.hid (H69.out.on hb); have H810 := Lib.hid (H89.out.on hb); have HW10 : Hid (w4.heap.size ≤ w10.heap.size) := Lib.hid (Nat.le_trans HW9.out hb.size); clear hb; obtain ⟨⟨g0, g1⟩, -⟩ := H810.out.two)
    | (go_at_call 31; have _ := HB8; go_fit (i7 p7 k7 (w3.heap.size + 1) _ hz2 (by have := HW8.out; have := HW34.out; omega) HV78.out); rintro e w9 ⟨rfl, hF⟩; have HB9 := Lib.hid (HB8.out.trans (hF.1.mono HW3.out)); have H69 := Lib.hid (H68.out.mark hF HV78.out (fun x y hx hy => by have := (own_ltX HV7.out x hx).1; have := (own_ltX HV6.out y hy).2; omega)); have H89 := Lib.hid (H88.out.mark hF HV78.out (fun x y hx hy => by have := (own_ltX HV7.out x hx).2; have := (own_ltX HV8.out y hy).1; omega)); have HW9 : Hid (w4.heap.size ≤ w9.heap.size) := Lib.hid (Nat.le_trans HW8.out hF.2.1); clear hF; obtain ⟨⟨g0, g1⟩, -⟩ := H89.out.two; obtain ⟨⟨a0, a1⟩, -⟩ := H69.out.two)
    | (go_at_call 29; have _ := HB7; go_fit (i5 p7 p9 k7 k9 _ hz2 (row_ownX HV77.out) (row_ownX HV9.out)); rintro e w8 ⟨rfl, hb⟩; have HB8 := Lib.hid (HB7.out.trans (hb.mono HB7.out.size)); have H68 := Lib.hid (H67.out.on hb); have HV78 := Lib.hid (HV77.out.on hb); have H88 := Lib.hid (H87.out.on hb); have HW8 : Hid (w4.heap.size ≤ w8.heap.size) := Lib.hid (Nat.le_trans HW7.out hb.size); clear hb)
    | (go_at_call 28; have _ := HB6; go_fit (i2 hz2 _ HB6.out); rintro e w7 ⟨⟨p9, k9, rfl, hv⟩, hb⟩; have HB7 := Lib.hid (HB6.out.trans (hb.mono HB6.out.size)); have HV9 := Lib.hid hv; have H67 := Lib.hid (H66.out.on hb); have HV77 := Lib.hid (HV76.out.on hb); have H87 := Lib.hid (H86.out.on hb); have HW7 : Hid (w4.heap.size ≤ w7.heap.size) := Lib.hid (Nat.le_trans HW6.out hb.size); clear hb hv)
    | (go_at_call 30; have _ := HB5; go_fit (j1 p8 p6 k8 k6 _ (by have := HRL.out hz2; omega) (row_ownX (HV8.out.alloc _)) (row_ownX (H65.out.2.alloc _))); rintro e w6 ⟨rfl, hb⟩; have HB6 := Lib.hid ((HB5.out.alloc HB5.out.size _).trans (hb.mono (HB5.out.alloc HB5.out.size _).size)); have H66 := Lib.hid ((H65.out.on ((Below.refl _ _).alloc (Nat.le_refl _) _)).on hb); have HV76 := Lib.hid ((HV75.out.on ((Below.refl _ _).alloc (Nat.le_refl _) _)).on hb); have H86 := Lib.hid ((OutX.new HV8.out).on hb); have HW6 : Hid (w4.heap.size ≤ w6.heap.size) := Lib.hid (Nat.le_trans HW5.out (Nat.le_trans (by simp) hb.size)); clear hb)
    | (go_at_call 15; have _ := HB4; go_fit (i4 p7 k7 _ hz2 hz3 (row_ownX HV7.out) (HM.out _ HB4.out)); rintro e w5 ⟨⟨p8, k8, rfl, hv⟩, hb⟩; have HB5 := Lib.hid (HB4.out.trans (hb.mono HB4.out.size)); have HV8 := Lib.hid hv; have H65 := Lib.hid (H64.out.on hb); have HV75 := Lib.hid (HV7.out.on hb); have HW5 : Hid (w4.heap.size ≤ w5.heap.size) := Lib.hid hb.size; clear hb hv; obtain ⟨⟨a0, a1⟩, hl6⟩ := H65.out.two)
    | (go_at_call 28; have _ := HB3; go_fit (i2 hz2 _ (HB3.out.alloc HB3.out.size _)); rintro e w4 ⟨⟨p7, k7, rfl, hv⟩, hb⟩; rw [World.size_alloc] at hv; have HB4 := Lib.hid ((HB3.out.alloc HB3.out.size _).trans (hb.mono (HB3.out.alloc HB3.out.size _).size)); have HV7 := Lib.hid hv; have H64 := Lib.hid ((OutX.new HV6.out).on hb); have HW34 : Hid (w3.heap.size + 1 ≤ w4.heap.size) := Lib.hid (Nat.le_trans (by simp) hb.size); have HW4 : Hid (w.heap.size ≤ w4.heap.size) := Lib.hid HB4.out.size; have HW3 : Hid (w.heap.size ≤ w3.heap.size + 1) := Lib.hid (Nat.le_succ_of_le HB3.out.size); clear hb hv)
    | (go_at_call 16; have _ := HB2; go_fit (i3 p2 k2 _ _ hz2 hz3 HV2.out); rintro e w3 ⟨⟨p6, k6, rfl, hv⟩, hb⟩; have HB3 := Lib.hid (HB2.out.trans (hb.mono HB2.out.size)); have HV6 := Lib.hid hv; clear hb hv)
    | (go_at_call 28; have _ := HB1; go_fit (i2 hz2 _ HB1.out); rintro e w2 ⟨⟨p2, k2, rfl, hv⟩, hb⟩; have HB2 := Lib.hid (HB1.out.trans (hb.mono HB1.out.size)); have HV2 := Lib.hid hv; clear hb hv)
    | (go_at_call 27; go_fit (i1 _ HB0.out); rintro e w1 ⟨⟨z, rfl, hz⟩, hb1⟩; have HB1 := Lib.hid hb1; clear hb1; rcases hz with rfl | ⟨hz1, hz2, hz3⟩))
  · go_ret
    exact ⟨rfl, HB1.out⟩
  · go_ret
    exact ⟨rfl, HB16.out⟩
end Go.Proofs.Ytpjmcpfmnlfmdaa
