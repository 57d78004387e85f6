/- FnExactDbVerified's walk. -/
import Derived.Test.YtpbogdfgomfpjaaDoorDbOutL
namespace Go.Proofs.YtpbogdfgomfpjaaDoor
set_option linter.unusedSimpArgs false
set_option linter.unusedVariables false
open Go.RowKit Go.Joins

theorem dbverifiedl_len {d : ByteArray} {n : Int} {ps : List PrL} {id : Int} {good : Bool} (h : ps.length ≤ 1048576) : (verifiedR d n ps id good).ps.length ≤ 2000000 := by
  unfold verifiedR errR
  split
  · exact Nat.zero_le _
  · split
    · exact Nat.zero_le _
    · split
      · exact Nat.zero_le _
      · simp; omega
set_option maxRecDepth 100000 in
set_option maxHeartbeats 2000000 in
theorem dbverifiedl_law (w : World) (d : ByteArray) (n : Int) (a : Option Addr) (len cap : Nat) (ps : List PrL) (id : Int) (good : Bool) (x0 : DbArg w d n a len ps) (hm : MaxL w) (hE : Errs w) :
    Calls Tryd.prog 9 #[.agg #[.string d, .int .i64 n, .slice a len cap], .int .i64 id, .bool good] w fun e w' => e = .returned (.bool true) ∧ Below w.heap.size w w' := by
  have HM := Lib.hid (fun W (h : Below w.heap.size w W) => hm.below h hm.pos)
  have HE := Lib.hid (fun W (h : Below w.heap.size w W) => (show Errs W by obtain ⟨x, y, z, u, h0⟩ := hE; exact ⟨x, y, z, u, h0.below h⟩))
  have HX := Lib.hid (fun W (h : Below w.heap.size w W) => (⟨x0.1, x0.2.1, x0.2.2.1, x0.2.2.2.1, x0.2.2.2.2.1, x0.2.2.2.2.2.below h⟩ : DbArg W d n a len ps))
  obtain ⟨hd, hn, hl, hm', hw, hR⟩ := x0
  have i1 := fun W h => sz_db d n a len cap ps W h
  unfold dbV at i1
  obtain ⟨R, hR0⟩ : ∃ R, verifiedR d n ps id good = R := ⟨_, rfl⟩
  have HRL : Hid (ps.length ≤ 1048576 → R.ps.length ≤ 2000000) := Lib.hid (fun h => by rw [← hR0]; exact dbverifiedl_len h)
  have HD0 := Lib.hid (dbox_start w (.string d) (.int .i64 n) (.slice a len cap))
  clear hm hE hR hm' hw hn hd
  have i2 := fun W (hz : len ≤ 1048576) h => to_db d n a len cap ps W hl hz h
  have i3 := fun p c B W (h1 : d.size ≤ 1048576) (hz : ps.length ≤ 1048576) (h3 : ∀ x ∈ ps, Le_pr 1048576 x) ho => spec_verified d n ps p c B id good W h1 hz (fun x hx => ⟨by have := (h3 x hx).1; omega, by have := (h3 x hx).2; omega⟩) ho
  have i4 := fun p c B W (h1 : d.size ≤ 1048576) (hz : ps.length ≤ 1048576) (h3 : ∀ x ∈ ps, Le_pr 1048576 x) ho hm hE => impl_verified d n ps p c B id good W h1 hz (fun x hx => ⟨by have := (h3 x hx).1; omega, by have := (h3 x hx).2; omega⟩) ho hm hE
  have i5 := fun p q k l W (hz : ps.length ≤ 2000000) hp hq => eq_db d n ps p q k l W hz hp hq
  have i7 := fun p k B W (hz : ps.length ≤ 2000000) hB h => mark_db d n ps p k B W hz hB h
  rw [hR0] at i3 i4
  unfold DoIs at i3 i4
  unfold dbV at i2 i3 i4 i5 i7
  rw [hl] at i2 i3 i4 i5 i7 HRL
  have j1 := fun p q k l W hn hp hq => eq_out R p q k l W hn hp hq
  have j2 := fun p k B W hn hB h => mark_out R p k B W hn hB h
  have j3 := fun p k B W hn h => held_out R p k B W hn h
  unfold doV at i3 i4 j1 j2 j3
  clear hR0 hl
  go_enter Tryd.func9, Tryd.ntmps9
  go_wp2_with (first
    | (go_at_call 33; have _ := HD5; go_fit (j1 p8 p6 k8 k6 _ (HRL.out hz2) (row_own (HV8.out.alloc _)) (row_own (H65.out.2.alloc _))); rintro e w6 ⟨rfl, hb⟩; have HD6 := Lib.hid ((HD5.out.on ((Below.refl _ _).alloc (Nat.le_refl _) _)).on hb); have H66 := Lib.hid ((H65.out.on ((Below.refl _ _).alloc (Nat.le_refl _) _)).on hb); have H76 := Lib.hid ((H75.out.on ((Below.refl _ _).alloc (Nat.le_refl _) _)).on hb); have H86 := Lib.hid ((OutB.new HV8.out).on hb); have HW6 : Hid (w5.heap.size < w6.heap.size) := Lib.hid (Nat.lt_of_lt_of_le (by simp) hb.size); clear hb; obtain ⟨c0, c1, c2, _⟩ := arr_three HD6.out.1; have hzA := arr_lt HD6.out.1; obtain ⟨⟨a0, a1, a2, a3, a4⟩, _⟩ := arr_five H66.out.1; have hz6 := arr_lt H66.out.1; obtain ⟨b0, b1, b2, _⟩ := arr_three H76.out.1; have hz7 := arr_lt H76.out.1; obtain ⟨⟨e0, e1, e2, e3, e4⟩, _⟩ := arr_five H86.out.1; have hz8 := arr_lt H86.out.1)
    | (go_at_call 20; have _ := HD4; go_fit (i4 p7 k7 (w3.heap.size + 1) _ hz1 hz2 hz3 (HV7.out.alloc _) (HM.out _ (HD4.out.2.alloc HD4.out.2.size _)) (HE.out _ (HD4.out.2.alloc HD4.out.2.size _))); rintro e w5 ⟨⟨p8, k8, rfl, hv⟩, hb⟩; have HD5 := Lib.hid ((HD4.out.on ((Below.refl _ _).alloc (Nat.le_refl _) _)).on hb); have H65 := Lib.hid ((H64.out.on ((Below.refl _ _).alloc (Nat.le_refl _) _)).on hb); have H75 := Lib.hid ((CopB.new (d := d) (n := n) HV7.out).on hb); have HV8 : Hid (OwnC prC w5 (w4.heap.size + 1) 50 4 (.slice p8 R.ps.length k8) R.ps) := Lib.hid (by rw [World.size_alloc] at hv; exact hv); have HW5 : Hid (w4.heap.size + 1 ≤ w5.heap.size) := Lib.hid (Nat.le_trans (by simp) hb.size); clear hb hv; obtain ⟨c0, c1, c2, _⟩ := arr_three HD5.out.1; have hzA := arr_lt HD5.out.1; obtain ⟨⟨a0, a1, a2, a3, a4⟩, _⟩ := arr_five H65.out.1; have hz6 := arr_lt H65.out.1; obtain ⟨b0, b1, b2, _⟩ := arr_three H75.out.1; have hz7 := arr_lt H75.out.1)
    | (go_at_call 32; have _ := HD3; go_fit (i2 _ hz2 (HX.out _ (HD3.out.2.alloc HD3.out.2.size _)).2.2.2.2.2); rintro e w4 ⟨⟨p7, k7, rfl, hv⟩, hb⟩; have HD4 := Lib.hid ((HD3.out.on ((Below.refl _ _).alloc (Nat.le_refl _) _)).on hb); have H64 := Lib.hid ((OutB.new HV6.out).on hb); have HV7 : Hid (OwnC prC w4 (w3.heap.size + 1) 50 4 (.slice p7 len k7) ps) := Lib.hid (by rw [World.size_alloc] at hv; exact hv); have HW4 : Hid (w3.heap.size + 1 ≤ w4.heap.size) := Lib.hid (Nat.le_trans (by simp) hb.size); clear hb hv; obtain ⟨c0, c1, c2, _⟩ := arr_three HD4.out.1; have hzA := arr_lt HD4.out.1; obtain ⟨⟨a0, a1, a2, a3, a4⟩, _⟩ := arr_five H64.out.1; have hz6 := arr_lt H64.out.1)
    | (go_at_call 24; have _ := HD2; go_fit (i3 p2 k2 w1.heap.size _ hz1 hz2 hz3 HV2.out); rintro e w3 ⟨⟨p6, k6, rfl, hv⟩, hb⟩; have HD3 := Lib.hid (HD2.out.on hb); have HV6 := Lib.hid hv; clear hb hv; obtain ⟨c0, c1, c2, _⟩ := arr_three HD3.out.1; have hzA := arr_lt HD3.out.1)
    | (go_at_call 32; have _ := HD1; go_fit (i2 _ hz2 (HX.out _ HD1.out.2).2.2.2.2.2); rintro e w2 ⟨⟨p2, k2, rfl, hv⟩, hb⟩; have HD2 := Lib.hid (HD1.out.on hb); have HV2 := Lib.hid hv; clear hb hv; obtain ⟨c0, c1, c2, _⟩ := arr_three HD2.out.1; have hzA := arr_lt HD2.out.1)
    | (go_at_call 31; go_fit (i1 _ (HX.out _ HD0.out.2)); rintro e w1 ⟨⟨z, rfl, hz⟩, hb1⟩; have HD1 := Lib.hid (HD0.out.on hb1); clear hb1; obtain ⟨c0, c1, c2, _⟩ := arr_three HD1.out.1; have hzA := arr_lt HD1.out.1; rcases hz with rfl | ⟨hz0, hz1, hz2, hz3⟩))
  · go_ret
    exact ⟨rfl, HD1.out.2⟩
  · have hd6 := HD6.out.on (Below.refl _ _).drew
    have h76 := H76.out.on (Below.refl _ _).drew
    refine wp_region_held_drew (S := fun W => Arr W w4.heap.size 32 [.string d, .int .i64 n, .slice p7 len k7] ∧ DBox w W [.string d, .int .i64 n, .slice a len cap]) (by kernel_rfl) ⟨h76.1, hd6⟩ (fun hHeld => ?_)
    have H6d := Lib.hid (H66.out.on (Below.refl _ _).drew)
    have H8d := Lib.hid (H86.out.on (Below.refl _ _).drew)
    have HWd : Hid (w5.heap.size < w6.drew.heap.size) := HW6
    generalize w6.drew = wd at hd6 h76 H6d H8d HWd hHeld ⊢
    clear HD6 H66 H76 H86 HW6 c0 c1 c2 hzA a0 a1 a2 a3 a4 hz6 b0 b1 b2 hz7 hz8
    refine takeQ (i := 0) (k := 35) (v := .agg #[.string d, .int .i64 n, .slice p7 len k7]) rfl (by rfl) (by kernel_rfl) (by kernel_rfl) (by kernel_rfl) (fun _ _ _ h => h) (by rfl) ?_ hHeld ?_
    · intro w1 hSw; obtain ⟨m0, m1, m2, _⟩ := arr_three hSw.1; go_simp
    (try simp only [Act.put, List.setIfInBounds_toArray, List.set_cons_zero, List.set_cons_succ])
    refine takeQ (i := 1) (k := 36) (v := .agg #[.string d, .int .i64 n, .slice a len cap]) rfl (by rfl) (by kernel_rfl) (by kernel_rfl) (by kernel_rfl) (fun _ _ _ h => h) (by rfl) ?_ hHeld ?_
    · intro w1 hSw; obtain ⟨m0, m1, m2, _⟩ := arr_three hSw.2.1; go_simp
    (try simp only [Act.put, List.setIfInBounds_toArray, List.set_cons_zero, List.set_cons_succ])
    refine wpAnyH_ready (rs := [2]) (by kernel_rfl) (by simp) ?_
    refine AllReadyH.cons rfl (fun K hK => ?_) AllReadyH.nil
    rw [if_pos (by rfl)]
    go_simp
    go_fit (i2 _ hz2 (HX.out _ hd6.2).2.2.2.2.2)
    rintro e w7 ⟨⟨p9, k9, rfl, hv9⟩, hb7⟩
    have hd7 := hd6.on hb7
    have h77 := h76.on hb7
    refine hK.out _ _ ⟨h77.1, hd7⟩ (fun hHeld => ?_)
    clear hK K
    (try simp only [Act.put, List.setIfInBounds_toArray, List.set_cons_zero, List.set_cons_succ])
    refine wpAnyH_ready (rs := [3]) (by kernel_rfl) (by simp) ?_
    refine AllReadyH.cons rfl (fun K hK => ?_) AllReadyH.nil
    rw [if_pos (by rfl)]
    go_simp
    go_fit (i5 p7 p9 k7 k9 _ (by omega) (row_own h77.2) (row_own hv9))
    rintro e w8 ⟨rfl, hb8⟩
    have HD8 := Lib.hid (hd7.on hb8)
    have H68 := Lib.hid ((H6d.out.on hb7).on hb8)
    have H78 := Lib.hid (h77.on hb8)
    have H88 := Lib.hid ((H8d.out.on hb7).on hb8)
    have HW8 : Hid (w5.heap.size < w8.heap.size) := Lib.hid (Nat.lt_of_lt_of_le HWd.out (Nat.le_trans hb7.size hb8.size))
    refine hK.out _ _ ⟨H78.out.1, HD8.out⟩ (fun hHeld => ?_)
    clear hK K
    (try simp only [Act.put, List.setIfInBounds_toArray, List.set_cons_zero, List.set_cons_succ])
    refine takeQ (i := 4) (k := 39) (v := .bool false) rfl (by rfl) (by kernel_rfl) (by kernel_rfl) (by kernel_rfl) (fun _ _ _ h => h) (by rfl) ?_ hHeld ?_
    · intro w1 hSw; go_simp
    (try simp only [Act.put, List.setIfInBounds_toArray, List.set_cons_zero, List.set_cons_succ])
    refine wpAnyH_done (by kernel_rfl) ?_ _
    clear hHeld hb7 hb8 hv9 h77 hd7 h76 hd6 H6d H8d HWd
    obtain ⟨c0, c1, c2, _⟩ := arr_three HD8.out.1; have hzA := arr_lt HD8.out.1
    obtain ⟨⟨a0, a1, a2, a3, a4⟩, _⟩ := arr_five H68.out.1; have hz6 := arr_lt H68.out.1
    obtain ⟨b0, b1, b2, _⟩ := arr_three H78.out.1; have hz7 := arr_lt H78.out.1
    obtain ⟨⟨g0, g1, g2, g3, g4⟩, _⟩ := arr_five H88.out.1
    have hz8 := arr_lt H88.out.1
    have hpos1 : ¬ ((1 : Int) + len * 4 < 0) := by omega
    have hpos2 : ¬ ((1 : Int) + R.ps.length * 4 < 0) := by omega
    have HWW : Hid (w3.heap.size + 1 ≤ w4.heap.size ∧ w4.heap.size + 1 ≤ w5.heap.size ∧ w.heap.size < w3.heap.size) := Lib.hid ⟨HW4.out, HW5.out, arr_lt HD3.out.1⟩
    go_wp2_with (first
      | (go_at_call 37; have _ := HD15; go_fit (j3 p8 k8 (w4.heap.size + 1) _ (HRL.out hz2) H815.out.2); rintro e w16 ⟨rfl, hb⟩; have HD16 := Lib.hid (HD15.out.on hb); clear hb)
      | (go_at_call 33; have _ := HD14; go_fit (j1 p12 p6 k12 k6 _ (HRL.out hz2) (row_own (HV12.out.alloc _)) (row_own (H614.out.2.alloc _))); rintro e w15 ⟨rfl, hb⟩; have HD15 := Lib.hid ((HD14.out.on ((Below.refl _ _).alloc (Nat.le_refl _) _)).on hb); have H815 := Lib.hid (And.intro (arr_below (arr_below H814.out.1 ((Below.refl _ _).alloc (Nat.le_refl _) _)) hb) ((H814.out.2.on ((Below.refl _ _).alloc (Nat.le_refl _) _)).on hb)); clear hb; obtain ⟨⟨g0, g1, g2, g3, g4⟩, _⟩ := arr_five H815.out.1; have hz8 := arr_lt H815.out.1)
      | (go_at_call 20; have _ := HD13; go_fit (i4 p13 k13 _ _ hz1 hz2 hz3 HV13.out (HM.out _ HD13.out.2) (HE.out _ HD13.out.2)); rintro e w14 ⟨⟨p12, k12, rfl, hv⟩, hb⟩; have HD14 := Lib.hid (HD13.out.on hb); have H614 := Lib.hid (H613.out.on hb); have H814 := Lib.hid (And.intro (arr_below H813.out.1 hb) (H813.out.2.on hb)); have HV12 := Lib.hid hv; clear hb hv; obtain ⟨⟨a0, a1, a2, a3, a4⟩, _⟩ := arr_five H614.out.1; have hz6 := arr_lt H614.out.1; obtain ⟨⟨g0, g1, g2, g3, g4⟩, _⟩ := arr_five H814.out.1; have hz8 := arr_lt H814.out.1)
      | (go_at_call 32; have _ := HD12; go_fit (i2 _ hz2 (HX.out _ HD12.out.2).2.2.2.2.2); rintro e w13 ⟨⟨p13, k13, rfl, hv⟩, hb⟩; have HD13 := Lib.hid (HD12.out.on hb); have H613 := Lib.hid (H612.out.on hb); have H813 := Lib.hid (And.intro (arr_below H812.out.1 hb) (H812.out.2.on hb)); have HV13 := Lib.hid hv; clear hb hv)
      | (go_at_call 37; have _ := HD11; go_fit (j3 p8 k8 (w4.heap.size + 1) _ (HRL.out hz2) H811.out.2); rintro e w12 ⟨rfl, hb⟩; have HD12 := Lib.hid (HD11.out.on hb); have H612 := Lib.hid (H611.out.on hb); have H812 := Lib.hid (And.intro (arr_below H811.out.1 hb) (H811.out.2.on hb)); clear hb; obtain ⟨c0, c1, c2, _⟩ := arr_three HD12.out.1; have hzA := arr_lt HD12.out.1)
      | (go_at_call 36; have _ := HD10; go_fit (j2 p8 k8 (w4.heap.size + 1) _ (HRL.out hz2) (by have := HW10.out; have := HWW.out; omega) H810.out.2); rintro e w11 ⟨rfl, hM, hF⟩; have HD11 := Lib.hid (HD10.out.mark hF (by have := HWW.out; omega)); have H611 := Lib.hid (H610.out.low hF (by have := HWW.out; omega) (fun g hg => by have := own_lt HV6.out g hg; have := HWW.out; omega)); have H811 := Lib.hid (And.intro (hF.arr H810.out.1 (fun g hg => (own_ne_box H810.out.2 H810.out.1 (by decide) g hg).symm)) hM); clear hM hF; obtain ⟨c0, c1, c2, _⟩ := arr_three HD11.out.1; have hzA := arr_lt HD11.out.1; obtain ⟨⟨a0, a1, a2, a3, a4⟩, _⟩ := arr_five H611.out.1; have hz6 := arr_lt H611.out.1; obtain ⟨⟨g0, g1, g2, g3, g4⟩, _⟩ := arr_five H811.out.1; have hz8 := arr_lt H811.out.1)
      | (go_at_call 33; have _ := HD9; go_fit (j1 p8 p6 k8 k6 _ (HRL.out hz2) (row_own H89.out.2) (row_own H69.out.2)); rintro e w10 ⟨rfl, hb⟩; have HD10 := Lib.hid (HD9.out.on hb); have H610 := Lib.hid (H69.out.on hb); have H810 := Lib.hid (H89.out.on hb); have HW10 : Hid (w5.heap.size < w10.heap.size) := Lib.hid (Nat.lt_of_lt_of_le HW9.out hb.size); clear hb; obtain ⟨c0, c1, c2, _⟩ := arr_three HD10.out.1; have hzA := arr_lt HD10.out.1; obtain ⟨⟨a0, a1, a2, a3, a4⟩, _⟩ := arr_five H610.out.1; have hz6 := arr_lt H610.out.1; obtain ⟨⟨g0, g1, g2, g3, g4⟩, _⟩ := arr_five H810.out.1; have hz8 := arr_lt H810.out.1)
      | (go_at_call 35; go_fit (i7 p7 k7 (w3.heap.size + 1) _ (by omega) (by have := HW8.out; have := HWW.out; omega) H78.out.2); rintro e w9 ⟨rfl, hM, hF⟩; have HD9 := Lib.hid (HD8.out.mark hF (by have := HWW.out; omega)); have H69 := Lib.hid (H68.out.low hF (by have := HWW.out; omega) (fun g hg => by have := own_lt HV6.out g hg; omega)); have H89 : Hid (OutB w5.heap.size (w4.heap.size + 1) w9 R p8 k8) := Lib.hid ⟨hF.arr H88.out.1 (fun g hg => (own_ne_box H78.out.2 H88.out.1 (by decide) g hg).symm), hF.own H88.out.2 (fun x y hx hy => by have := own_lt HV7.out x hx; have := own_base HV8.out y hy; omega)⟩; have HW9 : Hid (w5.heap.size < w9.heap.size) := Lib.hid (Nat.lt_of_lt_of_le HW8.out hF.2.1); clear hM hF; obtain ⟨c0, c1, c2, _⟩ := arr_three HD9.out.1; have hzA := arr_lt HD9.out.1; obtain ⟨⟨a0, a1, a2, a3, a4⟩, _⟩ := arr_five H69.out.1; have hz6 := arr_lt H69.out.1; obtain ⟨⟨g0, g1, g2, g3, g4⟩, _⟩ := arr_five H89.out.1; have hz8 := arr_lt H89.out.1))
    go_ret
    exact ⟨rfl, HD16.out.2⟩
end Go.Proofs.YtpbogdfgomfpjaaDoor
