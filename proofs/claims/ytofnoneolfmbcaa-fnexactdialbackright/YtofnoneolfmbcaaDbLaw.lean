/- The walks of FnExactDialbackRight and FnExactDbTrusts. -/
import Derived.Test.YtofnoneolfmbcaaDbTrust
namespace Go.Proofs.Ytofnoneolfmbcaa
set_option linter.unusedSimpArgs false
set_option linter.unusedVariables false
open Go.RowKit

/-- The argument's box. -/
def DBox (w W : World) (c : List Value) : Prop := Arr W w.heap.size 24 c ∧ Below w.heap.size w W
theorem DBox.on {w W W2 : World} {c : List Value} (h : DBox w W c) (hb : Below W.heap.size W W2) : DBox w W2 c := ⟨arr_below h.1 hb, h.2.trans (hb.mono h.2.size)⟩
theorem dbox_start (w : World) (a b c : Value) : DBox w (w.alloc (.cells #[a, b, c] 24)) [a, b, c] := ⟨Arr.fresh w _ _, (Below.refl _ _).alloc (Nat.le_refl _) _⟩
theorem row_pr_of {W : World} {B : Nat} {p : Option Addr} {k n : Nat} {xs : List PrL} (h : OwnC prC W B 39 4 (.slice p n k) xs) : RowC prC 4 W p xs := by
  obtain ⟨p', k', e, hR⟩ := h.row prC_len
  injection e with e1 e2 e3
  rw [e1]
  exact hR
theorem le_wf {ps : List PrL} (h : ∀ x ∈ ps, Le_pr 1048576 x) : ∀ x ∈ ps, x.d.size ≤ maxLen ∧ x.k.size ≤ maxLen := fun x hx => by
  obtain ⟨h1, h2⟩ := h x hx
  unfold maxLen
  exact ⟨by omega, by omega⟩
set_option maxRecDepth 100000 in
set_option maxHeartbeats 1000000 in
theorem dbright_law (w : World) (d : ByteArray) (n : Int) (a : Option Addr) (len cap : Nat) (ps : List PrL) (x0 : DbArg w d n a len ps) (hm : MaxL w) :
    Calls Try.prog 3 #[.agg #[.string d, .int .i64 n, .slice a len cap]] w fun e w' => e = .returned (.bool true) ∧ Below w.heap.size w w' := by
  have HM := Lib.hid (fun W (h : Below w.heap.size w W) => hm.below h hm.pos)
  have HX := Lib.hid (fun W (h : Below w.heap.size w W) => (⟨x0.1, x0.2.1, x0.2.2.1, x0.2.2.2.1, x0.2.2.2.2.1, x0.2.2.2.2.2.below h⟩ : DbArg W d n a len ps))
  obtain ⟨hd, hn, hl, hm', hw, hR⟩ := x0
  have hdl : d.size ≤ 9223372036854775807 := by unfold maxLen at hd; omega
  have i1 := fun W h => sz_db d n a len cap ps W h
  unfold dbV at i1
  obtain ⟨b, hb0⟩ : ∃ b, dbB d n ps = b := ⟨_, rfl⟩
  have HD0 := Lib.hid (dbox_start w (.string d) (.int .i64 n) (.slice a len cap))
  clear hm hR hm' hw hn
  go_enter Try.func3, Try.ntmps3
  have i2 := fun W (hz : len ≤ 1048576) h => to_db d n a len cap ps W hl hz h
  have i3 := fun p c W (hz : ps.length ≤ 1048576) h3 hR => spec_dbright d n ps p c W hd hz (le_wf h3) hR
  have i4 := fun p c W (hz : ps.length ≤ 1048576) h3 hR hm => impl_dbright d n ps p c W hd hz (le_wf h3) hR hm
  have i5 := fun p q k l W (hz : ps.length ≤ 2000000) hp hq => eq_db d n ps p q k l W hz hp hq
  rw [hb0] at i3 i4
  unfold dbV at i2 i3 i4 i5
  rw [hl] at i2 i3 i4 i5
  clear hb0 hl hd
  go_wp2_with (first
    | (go_at_call 8; have _ := HD4; go_fit (i4 p4 c4 _ hz2 hz3 (row_pr_of (HV4.out.alloc _)) (HM.out _ (HD4.out.2.alloc HD4.out.2.size _))); rintro e w5 ⟨rfl, hb⟩; have HD5 := Lib.hid ((HD4.out.on ((Below.refl _ _).alloc (Nat.le_refl _) _)).on hb); have HV5 := Lib.hid ((HV4.out.alloc (.cells #[.string d, .int .i64 n, .slice p4 len c4] 29)).on hb); have HB5 := Lib.hid (box3 hb).1; clear hb)
    | (go_at_call 7; have _ := HD3; go_fit (i2 _ hz2 (HX.out _ HD3.out.2).2.2.2.2.2); rintro e w4 ⟨⟨p4, c4, rfl, hv⟩, hb⟩; have HD4 := Lib.hid (HD3.out.on hb); have HV4 := Lib.hid hv; clear hb hv; obtain ⟨c0, c1, c2, _⟩ := arr_three HD4.out.1)
    | (go_at_call 6; have _ := HD2; go_fit (i3 p2 q2 _ hz2 hz3 (row_pr_of HV2.out)); rintro e w3 ⟨rfl, hb⟩; have HD3 := Lib.hid (HD2.out.on hb); clear hb; obtain ⟨c0, c1, c2, _⟩ := arr_three HD3.out.1)
    | (go_at_call 7; have _ := HD1; go_fit (i2 _ hz2 (HX.out _ HD1.out.2).2.2.2.2.2); rintro e w2 ⟨⟨p2, q2, rfl, hv⟩, hb⟩; have HD2 := Lib.hid (HD1.out.on hb); have HV2 := Lib.hid hv; clear hb hv)
    | (go_at_call 5; go_fit (i1 _ (HX.out _ HD0.out.2)); rintro e w1 ⟨⟨z, rfl, hz⟩, hb1⟩; have HD1 := Lib.hid (HD0.out.on hb1); clear hb1; obtain ⟨c0, c1, c2, _⟩ := arr_three HD1.out.1; rcases hz with rfl | ⟨hz0, hz1, hz2, hz3⟩))
  · go_ret
    exact ⟨rfl, HD1.out.2⟩
  · have hd6 := HD5.out.on (Below.refl _ _).drew
    have hb6 := arr_below HB5.out (Below.refl _ _).drew
    have hv6 := HV5.out.on (Below.refl w5.heap.size w5).drew
    refine wp_region_held_drew (S := fun W => Arr W w4.heap.size 29 [.string d, .int .i64 n, .slice p4 len c4] ∧ DBox w W [.string d, .int .i64 n, .slice a len cap]) (by kernel_rfl) ⟨hb6, hd6⟩ (fun hHeld => ?_)
    generalize w5.drew = wd at hd6 hb6 hv6 hHeld ⊢
    refine takeQ (i := 0) (k := 22) (v := .agg #[.string d, .int .i64 n, .slice p4 len c4]) rfl (by rfl) (by kernel_rfl) (by kernel_rfl) (by kernel_rfl) (fun _ _ _ h => h) (by rfl) ?_ hHeld ?_
    · intro w1 hSw; obtain ⟨m0, m1, m2, _⟩ := arr_three hSw.1; go_simp
    (try simp only [Act.put, List.setIfInBounds_toArray, List.set_cons_zero, List.set_cons_succ])
    refine takeQ (i := 1) (k := 23) (v := .agg #[.string d, .int .i64 n, .slice a len cap]) rfl (by rfl) (by kernel_rfl) (by kernel_rfl) (by kernel_rfl) (fun _ _ _ h => h) (by rfl) ?_ hHeld ?_
    · intro w1 hSw; obtain ⟨m0, m1, m2, _⟩ := arr_three hSw.2.1; go_simp
    (try simp only [Act.put, List.setIfInBounds_toArray, List.set_cons_zero, List.set_cons_succ])
    refine wpAnyH_ready (rs := [2]) (by kernel_rfl) (by simp) ?_
    refine AllReadyH.cons rfl (fun K hK => ?_) AllReadyH.nil
    rw [if_pos (by rfl)]
    go_simp
    go_fit (i2 _ hz2 (HX.out _ hd6.2).2.2.2.2.2)
    rintro e w7 ⟨⟨p7, c7, rfl, hv7⟩, hb7⟩
    have hd7 := hd6.on hb7
    have hx7 := arr_below hb6 hb7
    have hr7 := row_pr_of (hv6.on hb7)
    refine hK.out _ _ ⟨hx7, hd7⟩ (fun hHeld => ?_)
    clear hK K
    (try simp only [Act.put, List.setIfInBounds_toArray, List.set_cons_zero, List.set_cons_succ])
    refine wpAnyH_ready (rs := [3]) (by kernel_rfl) (by simp) ?_
    refine AllReadyH.cons rfl (fun K hK => ?_) AllReadyH.nil
    rw [if_pos (by rfl)]
    go_simp
    go_fit (i5 p4 p7 c4 c7 _ (by omega) hr7 (row_pr_of hv7))
    rintro e w8 ⟨rfl, hb8⟩
    have hd8 := hd7.on hb8
    refine hK.out _ _ ⟨arr_below hx7 hb8, hd8⟩ (fun hHeld => ?_)
    clear hK K
    (try simp only [Act.put, List.setIfInBounds_toArray, List.set_cons_zero, List.set_cons_succ])
    refine takeQ (i := 4) (k := 26) (v := .bool false) rfl (by rfl) (by kernel_rfl) (by kernel_rfl) (by kernel_rfl) (fun _ _ _ h => h) (by rfl) ?_ hHeld ?_
    · intro w1 hSw; go_simp
    (try simp only [Act.put, List.setIfInBounds_toArray, List.set_cons_zero, List.set_cons_succ])
    refine wpAnyH_done (by kernel_rfl) ?_ _
    go_wp2
    go_ret
    exact ⟨rfl, hd8.2⟩
set_option maxRecDepth 100000 in
set_option maxHeartbeats 1000000 in
theorem trusts_law (w : World) (d : ByteArray) (n : Int) (a : Option Addr) (len cap : Nat) (ps : List PrL) (f : ByteArray) (id : Int) (wf : f.size ≤ maxLen) (x0 : DbArg w d n a len ps) (hm : MaxL w) :
    Calls Try.prog 4 #[.agg #[.string d, .int .i64 n, .slice a len cap], .string f, .int .i64 id] w fun e w' => e = .returned (.bool true) ∧ Below w.heap.size w w' := by
  unfold maxLen at wf
  by_cases hfb : 1048576 < f.size
  · go_enter Try.func4, Try.ntmps4
    go_wp2
    go_ret
    exact ⟨rfl, (Below.refl _ _).alloc (Nat.le_refl _) _⟩
  have hfs : f.size ≤ 1048576 := by omega
  have HM := Lib.hid (fun W (h : Below w.heap.size w W) => hm.below h hm.pos)
  have HX := Lib.hid (fun W (h : Below w.heap.size w W) => (⟨x0.1, x0.2.1, x0.2.2.1, x0.2.2.2.1, x0.2.2.2.2.1, x0.2.2.2.2.2.below h⟩ : DbArg W d n a len ps))
  obtain ⟨hd, hn, hl, hm', hw, hR⟩ := x0
  have hdl : d.size ≤ 9223372036854775807 := by unfold maxLen at hd; omega
  have i1 := fun W h => sz_db d n a len cap ps W h
  unfold dbV at i1
  obtain ⟨b, hb0⟩ : ∃ b, trB d n ps f id = b := ⟨_, rfl⟩
  have HD0 := Lib.hid (dbox_start w (.string d) (.int .i64 n) (.slice a len cap))
  clear hm hR hm' hw hn
  go_enter Try.func4, Try.ntmps4
  have i2 := fun W (hz : len ≤ 1048576) h => to_db d n a len cap ps W hl hz h
  have i3 := fun p c W (hz : ps.length ≤ 1048576) h3 hR => spec_trusts d n ps p c f id W hd hfs hz (le_wf h3) hR
  have i4 := fun p c W (hz : ps.length ≤ 1048576) h3 hR hm => impl_trusts d n ps p c f id W hd hfs hz (le_wf h3) hR hm
  have i5 := fun p q k l W (hz : ps.length ≤ 2000000) hp hq => eq_db d n ps p q k l W hz hp hq
  rw [hb0] at i3 i4
  unfold dbV at i2 i3 i4 i5
  rw [hl] at i2 i3 i4 i5
  clear hb0 hl hd
  go_wp2_with (first
    | (go_at_call 11; have _ := HD4; go_fit (i4 p4 c4 _ hz2 hz3 (row_pr_of (HV4.out.alloc _)) (HM.out _ (HD4.out.2.alloc HD4.out.2.size _))); rintro e w5 ⟨rfl, hb⟩; have HD5 := Lib.hid ((HD4.out.on ((Below.refl _ _).alloc (Nat.le_refl _) _)).on hb); have HV5 := Lib.hid ((HV4.out.alloc (.cells #[.string d, .int .i64 n, .slice p4 len c4] 29)).on hb); have HB5 := Lib.hid (box3 hb).1; clear hb)
    | (go_at_call 7; have _ := HD3; go_fit (i2 _ hz2 (HX.out _ HD3.out.2).2.2.2.2.2); rintro e w4 ⟨⟨p4, c4, rfl, hv⟩, hb⟩; have HD4 := Lib.hid (HD3.out.on hb); have HV4 := Lib.hid hv; clear hb hv; obtain ⟨c0, c1, c2, _⟩ := arr_three HD4.out.1)
    | (go_at_call 10; have _ := HD2; go_fit (i3 p2 q2 _ hz2 hz3 (row_pr_of HV2.out)); rintro e w3 ⟨rfl, hb⟩; have HD3 := Lib.hid (HD2.out.on hb); clear hb; obtain ⟨c0, c1, c2, _⟩ := arr_three HD3.out.1)
    | (go_at_call 7; have _ := HD1; go_fit (i2 _ hz2 (HX.out _ HD1.out.2).2.2.2.2.2); rintro e w2 ⟨⟨p2, q2, rfl, hv⟩, hb⟩; have HD2 := Lib.hid (HD1.out.on hb); have HV2 := Lib.hid hv; clear hb hv)
    | (go_at_call 5; go_fit (i1 _ (HX.out _ HD0.out.2)); rintro e w1 ⟨⟨z, rfl, hz⟩, hb1⟩; have HD1 := Lib.hid (HD0.out.on hb1); clear hb1; obtain ⟨c0, c1, c2, _⟩ := arr_three HD1.out.1; rcases hz with rfl | ⟨hz0, hz1, hz2, hz3⟩))
  · go_ret
    exact ⟨rfl, HD1.out.2⟩
  · have hd6 := HD5.out.on (Below.refl _ _).drew
    have hb6 := arr_below HB5.out (Below.refl _ _).drew
    have hv6 := HV5.out.on (Below.refl w5.heap.size w5).drew
    refine wp_region_held_drew (S := fun W => Arr W w4.heap.size 29 [.string d, .int .i64 n, .slice p4 len c4] ∧ DBox w W [.string d, .int .i64 n, .slice a len cap]) (by kernel_rfl) ⟨hb6, hd6⟩ (fun hHeld => ?_)
    generalize w5.drew = wd at hd6 hb6 hv6 hHeld ⊢
    refine takeQ (i := 0) (k := 33) (v := .agg #[.string d, .int .i64 n, .slice p4 len c4]) rfl (by rfl) (by kernel_rfl) (by kernel_rfl) (by kernel_rfl) (fun _ _ _ h => h) (by rfl) ?_ hHeld ?_
    · intro w1 hSw; obtain ⟨m0, m1, m2, _⟩ := arr_three hSw.1; go_simp
    (try simp only [Act.put, List.setIfInBounds_toArray, List.set_cons_zero, List.set_cons_succ])
    refine takeQ (i := 1) (k := 34) (v := .agg #[.string d, .int .i64 n, .slice a len cap]) rfl (by rfl) (by kernel_rfl) (by kernel_rfl) (by kernel_rfl) (fun _ _ _ h => h) (by rfl) ?_ hHeld ?_
    · intro w1 hSw; obtain ⟨m0, m1, m2, _⟩ := arr_three hSw.2.1; go_simp
    (try simp only [Act.put, List.setIfInBounds_toArray, List.set_cons_zero, List.set_cons_succ])
    refine wpAnyH_ready (rs := [2]) (by kernel_rfl) (by simp) ?_
    refine AllReadyH.cons rfl (fun K hK => ?_) AllReadyH.nil
    rw [if_pos (by rfl)]
    go_simp
    go_fit (i2 _ hz2 (HX.out _ hd6.2).2.2.2.2.2)
    rintro e w7 ⟨⟨p7, c7, rfl, hv7⟩, hb7⟩
    have hd7 := hd6.on hb7
    have hx7 := arr_below hb6 hb7
    have hr7 := row_pr_of (hv6.on hb7)
    refine hK.out _ _ ⟨hx7, hd7⟩ (fun hHeld => ?_)
    clear hK K
    (try simp only [Act.put, List.setIfInBounds_toArray, List.set_cons_zero, List.set_cons_succ])
    refine wpAnyH_ready (rs := [3]) (by kernel_rfl) (by simp) ?_
    refine AllReadyH.cons rfl (fun K hK => ?_) AllReadyH.nil
    rw [if_pos (by rfl)]
    go_simp
    go_fit (i5 p4 p7 c4 c7 _ (by omega) hr7 (row_pr_of hv7))
    rintro e w8 ⟨rfl, hb8⟩
    have hd8 := hd7.on hb8
    refine hK.out _ _ ⟨arr_below hx7 hb8, hd8⟩ (fun hHeld => ?_)
    clear hK K
    (try simp only [Act.put, List.setIfInBounds_toArray, List.set_cons_zero, List.set_cons_succ])
    refine takeQ (i := 4) (k := 37) (v := .bool false) rfl (by rfl) (by kernel_rfl) (by kernel_rfl) (by kernel_rfl) (fun _ _ _ h => h) (by rfl) ?_ hHeld ?_
    · intro w1 hSw; go_simp
    (try simp only [Act.put, List.setIfInBounds_toArray, List.set_cons_zero, List.set_cons_succ])
    refine wpAnyH_done (by kernel_rfl) ?_ _
    go_wp2
    go_ret
    exact ⟨rfl, hd8.2⟩
end Go.Proofs.Ytofnoneolfmbcaa
