/- FnExactRouteIq: the walk. -/
import Derived.Test.YtpjmcpfmnlfmdaaGreatQMbR
import Derived.Test.YtpjmcpfmnlfmdaaGreatQMbS
namespace Go.Proofs.YtpjmcpfmnlfmdaaGreat
set_option linter.unusedSimpArgs false
set_option linter.unusedVariables false
open Go.RowKit Go.Joins

set_option maxRecDepth 100000 in
set_option maxHeartbeats 8000000 in
theorem iq_law (w : World) (a : Option Addr) (len cap : Nat) (xs : List SeL) (b : Option Addr) (lem cam : Nat) (ys : List MsL) (x0 : MbArg w a len xs b lem ys) (s : MsL) (ws : s.wf) (hm : MaxL w) :
    Calls Tryz.prog 4 #[.agg #[.slice a len cap, .slice b lem cam], .agg #[.string s.k, .string s.t, .string s.f, .string s.o, .int .i64 s.n, .string s.b]] w fun e w' => e = .returned (.bool true) ∧ Below w.heap.size w w' := by
  have HX := Lib.hid x0
  have HM := Lib.hid (fun W (h : Below w.heap.size w W) => hm.below h hm.pos)
  have i1 := fun W hb => sz_mb (cap := cap) (cam := cam) HX.out W hb
  have i2 := fun hl W hb => to_mb (cap := cap) (cam := cam) HX.out hl W hb
  have hx := HX.out.1.1
  have hy := HX.out.2.1
  have i3 := fun p1 p2 k1 k2 B W (hl : len ≤ 1048576 ∧ lem ≤ 1048576) hw hw2 hs h1 h2 => spec_riq xs ys p1 p2 len lem k1 k2 s W hx hy hl.1 hl.2 hw hw2 hs B h1 h2
  have i4 := fun p1 p2 k1 k2 W (hl : len ≤ 1048576 ∧ lem ≤ 1048576) hw hw2 hs h1 h2 hm => impl_riq xs ys p1 p2 len lem k1 k2 s W hx hy hl.1 hl.2 hw hw2 hs h1 h2 hm
  have i5 := fun p1 p2 q1 q2 k1 k2 l1 l2 W (hl : len ≤ 1048576 ∧ lem ≤ 1048576) h1 h2 h3 h4 => eq_mb xs ys p1 p2 q1 q2 len lem k1 k2 l1 l2 W (by omega) (by omega) hx hy h1 h2 h3 h4
  have i7 := fun p1 p2 k1 k2 B W (hl : len ≤ 1048576 ∧ lem ≤ 1048576) hB h1 h2 => mark_mb xs ys p1 p2 len lem k1 k2 B W hl.1 hl.2 hx hy hB h1 h2
  have hRl : (iqR xs ys s).le := iq_le xs ys s
  obtain ⟨R, hR⟩ : ∃ R, iqR xs ys s = R := ⟨_, rfl⟩
  rw [hR] at i3 i4 hRl
  unfold RoIs at i3 i4
  have j1 := fun p1 p2 p3 q1 q2 q3 k1 k2 k3 l1 l2 l3 B1 B2 W hp hq => eq_ro R p1 p2 p3 q1 q2 q3 k1 k2 k3 l1 l2 l3 B1 B2 W hRl hp hq
  have j2 := fun p1 p2 p3 k1 k2 k3 B W hB h => mark_ro R p1 p2 p3 k1 k2 k3 B W hRl hB h
  have j3 := fun p1 p2 p3 k1 k2 k3 B W h => held_ro R p1 p2 p3 k1 k2 k3 B W hRl h
  unfold roV at i3 i4 j1 j2 j3
  obtain ⟨u0, u1, u2, u3, u4, u5⟩ := ws
  have i8 := fun left W l0 l1 => sz_ms s left W (by unfold maxLen at u0; omega) (by unfold maxLen at u1; omega) (by unfold maxLen at u2; omega) (by unfold maxLen at u3; omega) (by unfold maxLen at u5; omega) l0 l1
  have i9 := fun W => to_ms s W
  have HD0 := Lib.hid (lwS_start w a len cap b lem cam s)
  have hpos1 : ¬ ((1 : Int) + len * 4 + lem * 6 < 0) := by omega
  have hpos2 : ¬ ((1 : Int) + R.l.length * 4 + R.ks.length * 6 + R.to.length < 0) := by omega
  clear x0 hR hRl hm hx hy u0 u1 u2 u3 u4 u5
  go_enter Tryz.func4, Tryz.ntmps4
  go_wp2_with (first
    | (go_at_call 7; have _ := HD1; go_fit (i8 z _ hz0 hz1); rintro e w1b ⟨⟨z2, rfl, hq⟩, hb⟩; have HD1b := Lib.hid (HD1.out.on hb); clear hb; obtain ⟨⟨c0, c1⟩, _⟩ := arr9_two HD1b.out.1; have hzA := arr9_lt HD1b.out.1; obtain ⟨⟨d0, d1, d2, d3, d4, d5⟩, _⟩ := arr_six0 HD1b.out.2.1; have hzB := arr9_lt HD1b.out.2.1; rcases hq with rfl | ⟨hq0, hq1⟩)
    | (go_at_call 6; go_fit (i1 _ HD0.out.2.2); rintro e w1 ⟨⟨z, rfl, hz⟩, hb⟩; have HD1 := Lib.hid (HD0.out.on hb); clear hb; obtain ⟨⟨c0, c1⟩, _⟩ := arr9_two HD1.out.1; have hzA := arr9_lt HD1.out.1; obtain ⟨⟨d0, d1, d2, d3, d4, d5⟩, _⟩ := arr_six0 HD1.out.2.1; have hzB := arr9_lt HD1.out.2.1; rcases hz with rfl | ⟨⟨hz0, hz1⟩, hz2, hz3, hz4⟩))
  · go_ret
    exact ⟨rfl, HD1.out.2.2⟩
  · go_ret
    exact ⟨rfl, HD1b.out.2.2⟩
  · skip
    refine region_join [23, 24, 25, 26, 27, 6] (fun vs W => ∃ b p1 pk1 p2 pk2 p3 pk3, vs 6 = .pointer (some ⟨b, 0, none⟩) ∧ w1b.heap.size ≤ b ∧ RoBox b (w1b.heap.size) W R p1 pk1 p2 pk2 p3 pk3 ∧ Below w1b.heap.size w1b W) ?_ ?_
    · refine wp_region_held_drew (S := fun W => Below w1b.heap.size w1b W) (by kernel_rfl) (Below.refl _ _).drew (fun hHeld => ?_)
      have HS0 : Hid (Below w1b.heap.size w1b (w1b.drew)) := Lib.hid (Below.refl _ _).drew
      generalize World.drew _ = wd at HS0 hHeld ⊢
      clear c0 c1 d0 d1 d2 d3 d4 d5 hzA hzB
      refine takeQ (i := 0) (k := 23) (v := .agg #[.slice a len cap, .slice b lem cam]) rfl (by rfl) (by kernel_rfl) (by kernel_rfl) (by kernel_rfl) (fun _ _ _ h => h) (by rfl) ?_ hHeld ?_
      · intro w1 hSw; obtain ⟨⟨c0, c1⟩, _⟩ := arr9_two (HD1b.out.on hSw).1; obtain ⟨⟨d0, d1, d2, d3, d4, d5⟩, _⟩ := arr_six0 (HD1b.out.on hSw).2.1; go_simp
      (try simp only [Act.put, List.setIfInBounds_toArray, List.set_cons_zero, List.set_cons_succ])
      refine takeQ (i := 2) (k := 25) (v := .agg #[.string s.k, .string s.t, .string s.f, .string s.o, .int .i64 s.n, .string s.b]) rfl (by rfl) (by kernel_rfl) (by kernel_rfl) (by kernel_rfl) (fun _ _ _ h => h) (by rfl) ?_ hHeld ?_
      · intro w1 hSw; obtain ⟨⟨c0, c1⟩, _⟩ := arr9_two (HD1b.out.on hSw).1; obtain ⟨⟨d0, d1, d2, d3, d4, d5⟩, _⟩ := arr_six0 (HD1b.out.on hSw).2.1; go_simp
      (try simp only [Act.put, List.setIfInBounds_toArray, List.set_cons_zero, List.set_cons_succ])
      refine wpAnyH_ready (rs := [1, 5]) (by kernel_rfl) (by simp) ?_
      refine AllReadyH.cons rfl (fun K hK => ?_) (AllReadyH.cons rfl (fun K hK => ?_) AllReadyH.nil)
      · skip
        rw [if_pos (by rfl)]
        go_simp
        go_fit (i2 hz2 _ ((HD1b.out.on HS0.out).2.2))
        rintro e W1q ⟨⟨q1, qk1, q2, qk2, rfl, hv⟩, hb⟩
        have HM3q := Lib.hid (And.intro (hv.1.mono HS0.out.size) (hv.2.mono HS0.out.size))
        clear hv
        have HS2q := Lib.hid (HS0.out.trans (hb.mono HS0.out.size))
        clear hb
        refine hK.out _ _ HS2q.out (fun hHeld => ?_)
        clear hK K
        (try simp only [Act.put, List.setIfInBounds_toArray, List.set_cons_zero, List.set_cons_succ])
        refine wpAnyH_ready (rs := [3, 5]) (by kernel_rfl) (by simp) ?_
        refine AllReadyH.cons rfl (fun K hK => ?_) (AllReadyH.cons rfl (fun K hK => ?_) AllReadyH.nil)
        · skip
          rw [if_pos (by rfl)]
          go_simp
          go_fit (i9 _)
          rintro e W4q ⟨rfl, hb⟩
          have HS5q := Lib.hid (HS2q.out.trans (hb.mono HS2q.out.size))
          have HM6q := Lib.hid (And.intro (HM3q.out.1.on hb) (HM3q.out.2.on hb))
          clear hb
          refine hK.out _ _ HS5q.out (fun hHeld => ?_)
          clear hK K
          (try simp only [Act.put, List.setIfInBounds_toArray, List.set_cons_zero, List.set_cons_succ])
          refine wpAnyH_ready (rs := [4, 5]) (by kernel_rfl) (by simp) ?_
          refine AllReadyH.cons rfl (fun K hK => ?_) (AllReadyH.cons rfl (fun K hK => ?_) AllReadyH.nil)
          · skip
            rw [if_pos (by rfl)]
            go_simp
            go_fit (i3 q1 q2 qk1 qk2 w1b.heap.size _ hz2 hz3 hz4 (ms_le hz1 hq0 hq1) HM6q.out.1 HM6q.out.2)
            rintro e W7q ⟨⟨p1, pk1, p2, pk2, p3, pk3, rfl, hv⟩, hb⟩
            have HV9q : Hid (RoOwn w1b.heap.size W7q R p1 pk1 p2 pk2 p3 pk3) := Lib.hid (RoOwn.mono hv HS5q.out.size)
            clear hv
            have HS8q := Lib.hid (HS5q.out.trans (hb.mono HS5q.out.size))
            clear hb
            refine hK.out _ _ HS8q.out (fun hHeld => ?_)
            clear hK K
            (try simp only [Act.put, List.setIfInBounds_toArray, List.set_cons_zero, List.set_cons_succ])
            refine wpAnyH_ready (rs := [5]) (by kernel_rfl) (by simp) ?_
            refine AllReadyH.cons rfl (fun K hK => ?_) AllReadyH.nil
            rw [if_pos (by rfl)]
            go_simp
            have hb : Below W7q.heap.size W7q (W7q.alloc (.cells #[.slice none 0 0, .slice none 0 0, .slice none 0 0, .string ⟨#[]⟩, .string ⟨#[]⟩, .string ⟨#[]⟩, .string ⟨#[]⟩, .int .i64 0, .string ⟨#[]⟩, .int .i64 0] 37)) := ((Below.refl _ _).alloc (Nat.le_refl _) _)
            have HS11q := Lib.hid (HS8q.out.trans (hb.mono HS8q.out.size))
            have HA12q : Hid (Arr (W7q.alloc (.cells #[.slice none 0 0, .slice none 0 0, .slice none 0 0, .string ⟨#[]⟩, .string ⟨#[]⟩, .string ⟨#[]⟩, .string ⟨#[]⟩, .int .i64 0, .string ⟨#[]⟩, .int .i64 0] 37)) W7q.heap.size 37 [.slice none 0 0, .slice none 0 0, .slice none 0 0, .string ⟨#[]⟩, .string ⟨#[]⟩, .string ⟨#[]⟩, .string ⟨#[]⟩, .int .i64 0, .string ⟨#[]⟩, .int .i64 0]) := Lib.hid (Arr.fresh W7q _ _)
            have HV13q := Lib.hid (HV9q.out.on hb)
            have hq14q : w1b.heap.size ≤ W7q.heap.size := HS8q.out.size
            clear hb
            refine hK.out _ _ HS11q.out (fun hHeld => ?_)
            clear hK K
            (try simp only [Act.put, List.setIfInBounds_toArray, List.set_cons_zero, List.set_cons_succ])
            generalize W7q.heap.size = b15q at HA12q hq14q ⊢
            generalize W7q.alloc (.cells #[.slice none 0 0, .slice none 0 0, .slice none 0 0, .string ⟨#[]⟩, .string ⟨#[]⟩, .string ⟨#[]⟩, .string ⟨#[]⟩, .int .i64 0, .string ⟨#[]⟩, .int .i64 0] 37) = W10q at HS11q HA12q HV13q hHeld ⊢
            refine wpAnyH_ready (rs := [6]) (by kernel_rfl) (by simp) ?_
            refine AllReadyH.cons rfl (fun K hK => ?_) AllReadyH.nil
            rw [if_pos (by rfl)]
            obtain ⟨⟨x0, x1, x2, x3, x4, x5, x6, x7, x8, x9⟩, y0, y1, y2, y3, y4, y5, y6, y7, y8, y9⟩ := ten_all HA12q.out
            go_simp
            have hE := arr_put10 HA12q.out (.slice p1 R.l.length pk1) (.slice p2 R.ks.length pk2) (.slice p3 R.to.length pk3) (.string R.bk.k) (.string R.bk.t) (.string R.bk.f) (.string R.bk.o) (.int .i64 R.bk.n) (.string R.bk.b) (.int .i64 R.c)
            have hRf := below_put10 HS11q.out hq14q (.slice p1 R.l.length pk1) (.slice p2 R.ks.length pk2) (.slice p3 R.to.length pk3) (.string R.bk.k) (.string R.bk.t) (.string R.bk.f) (.string R.bk.o) (.int .i64 R.bk.n) (.string R.bk.b) (.int .i64 R.c)
            have hc1 := own_far10 HV13q.out.1 (own_ne10 HV13q.out.1 HA12q.out (by decide)) (.slice p1 R.l.length pk1) (.slice p2 R.ks.length pk2) (.slice p3 R.to.length pk3) (.string R.bk.k) (.string R.bk.t) (.string R.bk.f) (.string R.bk.o) (.int .i64 R.bk.n) (.string R.bk.b) (.int .i64 R.c)
            have hc2 := own_far10 HV13q.out.2.1 (own_ne10 HV13q.out.2.1 HA12q.out (by decide)) (.slice p1 R.l.length pk1) (.slice p2 R.ks.length pk2) (.slice p3 R.to.length pk3) (.string R.bk.k) (.string R.bk.t) (.string R.bk.f) (.string R.bk.o) (.int .i64 R.bk.n) (.string R.bk.b) (.int .i64 R.c)
            have hc3 := own_far10 HV13q.out.2.2 (own_ne10 HV13q.out.2.2 HA12q.out (by decide)) (.slice p1 R.l.length pk1) (.slice p2 R.ks.length pk2) (.slice p3 R.to.length pk3) (.string R.bk.k) (.string R.bk.t) (.string R.bk.f) (.string R.bk.o) (.int .i64 R.bk.n) (.string R.bk.b) (.int .i64 R.c)
            refine hK.out _ _ hRf (fun hHeld => ?_)
            clear hK K
            (try simp only [Act.put, List.setIfInBounds_toArray, List.set_cons_zero, List.set_cons_succ])
            refine wpAnyH_done (by kernel_rfl) ?_ _
            exact ⟨⟨b15q, p1, pk1, p2, pk2, p3, pk3, rfl, hq14q, ⟨hE, hc1, hc2, hc3⟩, hRf⟩, by simp only [putAll, Act.put, List.setIfInBounds_toArray, List.set_cons_zero, List.set_cons_succ]; rfl⟩
          · skip
            rw [if_pos (by rfl)]
            go_simp
            have hb : Below W4q.heap.size W4q (W4q.alloc (.cells #[.slice none 0 0, .slice none 0 0, .slice none 0 0, .string ⟨#[]⟩, .string ⟨#[]⟩, .string ⟨#[]⟩, .string ⟨#[]⟩, .int .i64 0, .string ⟨#[]⟩, .int .i64 0] 37)) := ((Below.refl _ _).alloc (Nat.le_refl _) _)
            have HS17q := Lib.hid (HS5q.out.trans (hb.mono HS5q.out.size))
            have HA18q : Hid (Arr (W4q.alloc (.cells #[.slice none 0 0, .slice none 0 0, .slice none 0 0, .string ⟨#[]⟩, .string ⟨#[]⟩, .string ⟨#[]⟩, .string ⟨#[]⟩, .int .i64 0, .string ⟨#[]⟩, .int .i64 0] 37)) W4q.heap.size 37 [.slice none 0 0, .slice none 0 0, .slice none 0 0, .string ⟨#[]⟩, .string ⟨#[]⟩, .string ⟨#[]⟩, .string ⟨#[]⟩, .int .i64 0, .string ⟨#[]⟩, .int .i64 0]) := Lib.hid (Arr.fresh W4q _ _)
            have HM19q := Lib.hid (And.intro (HM6q.out.1.on hb) (HM6q.out.2.on hb))
            have hq20q : w1b.heap.size ≤ W4q.heap.size := HS5q.out.size
            clear hb
            refine hK.out _ _ HS17q.out (fun hHeld => ?_)
            clear hK K
            (try simp only [Act.put, List.setIfInBounds_toArray, List.set_cons_zero, List.set_cons_succ])
            generalize W4q.heap.size = b21q at HA18q hq20q ⊢
            generalize W4q.alloc (.cells #[.slice none 0 0, .slice none 0 0, .slice none 0 0, .string ⟨#[]⟩, .string ⟨#[]⟩, .string ⟨#[]⟩, .string ⟨#[]⟩, .int .i64 0, .string ⟨#[]⟩, .int .i64 0] 37) = W16q at HS17q HA18q HM19q hHeld ⊢
            refine wpAnyH_ready (rs := [4]) (by kernel_rfl) (by simp) ?_
            refine AllReadyH.cons rfl (fun K hK => ?_) AllReadyH.nil
            rw [if_pos (by rfl)]
            go_simp
            go_fit (i3 q1 q2 qk1 qk2 w1b.heap.size _ hz2 hz3 hz4 (ms_le hz1 hq0 hq1) HM19q.out.1 HM19q.out.2)
            rintro e W22q ⟨⟨p1, pk1, p2, pk2, p3, pk3, rfl, hv⟩, hb⟩
            have HV24q : Hid (RoOwn w1b.heap.size W22q R p1 pk1 p2 pk2 p3 pk3) := Lib.hid (RoOwn.mono hv HS17q.out.size)
            clear hv
            have HS23q := Lib.hid (HS17q.out.trans (hb.mono HS17q.out.size))
            have HA25q := Lib.hid (arr9_on HA18q.out hb)
            clear hb
            refine hK.out _ _ HS23q.out (fun hHeld => ?_)
            clear hK K
            (try simp only [Act.put, List.setIfInBounds_toArray, List.set_cons_zero, List.set_cons_succ])
            refine wpAnyH_ready (rs := [6]) (by kernel_rfl) (by simp) ?_
            refine AllReadyH.cons rfl (fun K hK => ?_) AllReadyH.nil
            rw [if_pos (by rfl)]
            obtain ⟨⟨x0, x1, x2, x3, x4, x5, x6, x7, x8, x9⟩, y0, y1, y2, y3, y4, y5, y6, y7, y8, y9⟩ := ten_all HA25q.out
            go_simp
            have hE := arr_put10 HA25q.out (.slice p1 R.l.length pk1) (.slice p2 R.ks.length pk2) (.slice p3 R.to.length pk3) (.string R.bk.k) (.string R.bk.t) (.string R.bk.f) (.string R.bk.o) (.int .i64 R.bk.n) (.string R.bk.b) (.int .i64 R.c)
            have hRf := below_put10 HS23q.out hq20q (.slice p1 R.l.length pk1) (.slice p2 R.ks.length pk2) (.slice p3 R.to.length pk3) (.string R.bk.k) (.string R.bk.t) (.string R.bk.f) (.string R.bk.o) (.int .i64 R.bk.n) (.string R.bk.b) (.int .i64 R.c)
            have hc1 := own_far10 HV24q.out.1 (own_ne10 HV24q.out.1 HA25q.out (by decide)) (.slice p1 R.l.length pk1) (.slice p2 R.ks.length pk2) (.slice p3 R.to.length pk3) (.string R.bk.k) (.string R.bk.t) (.string R.bk.f) (.string R.bk.o) (.int .i64 R.bk.n) (.string R.bk.b) (.int .i64 R.c)
            have hc2 := own_far10 HV24q.out.2.1 (own_ne10 HV24q.out.2.1 HA25q.out (by decide)) (.slice p1 R.l.length pk1) (.slice p2 R.ks.length pk2) (.slice p3 R.to.length pk3) (.string R.bk.k) (.string R.bk.t) (.string R.bk.f) (.string R.bk.o) (.int .i64 R.bk.n) (.string R.bk.b) (.int .i64 R.c)
            have hc3 := own_far10 HV24q.out.2.2 (own_ne10 HV24q.out.2.2 HA25q.out (by decide)) (.slice p1 R.l.length pk1) (.slice p2 R.ks.length pk2) (.slice p3 R.to.length pk3) (.string R.bk.k) (.string R.bk.t) (.string R.bk.f) (.string R.bk.o) (.int .i64 R.bk.n) (.string R.bk.b) (.int .i64 R.c)
            refine hK.out _ _ hRf (fun hHeld => ?_)
            clear hK K
            (try simp only [Act.put, List.setIfInBounds_toArray, List.set_cons_zero, List.set_cons_succ])
            refine wpAnyH_done (by kernel_rfl) ?_ _
            exact ⟨⟨b21q, p1, pk1, p2, pk2, p3, pk3, rfl, hq20q, ⟨hE, hc1, hc2, hc3⟩, hRf⟩, by simp only [putAll, Act.put, List.setIfInBounds_toArray, List.set_cons_zero, List.set_cons_succ]; rfl⟩
        · skip
          rw [if_pos (by rfl)]
          go_simp
          have hb : Below W1q.heap.size W1q (W1q.alloc (.cells #[.slice none 0 0, .slice none 0 0, .slice none 0 0, .string ⟨#[]⟩, .string ⟨#[]⟩, .string ⟨#[]⟩, .string ⟨#[]⟩, .int .i64 0, .string ⟨#[]⟩, .int .i64 0] 37)) := ((Below.refl _ _).alloc (Nat.le_refl _) _)
          have HS27q := Lib.hid (HS2q.out.trans (hb.mono HS2q.out.size))
          have HA28q : Hid (Arr (W1q.alloc (.cells #[.slice none 0 0, .slice none 0 0, .slice none 0 0, .string ⟨#[]⟩, .string ⟨#[]⟩, .string ⟨#[]⟩, .string ⟨#[]⟩, .int .i64 0, .string ⟨#[]⟩, .int .i64 0] 37)) W1q.heap.size 37 [.slice none 0 0, .slice none 0 0, .slice none 0 0, .string ⟨#[]⟩, .string ⟨#[]⟩, .string ⟨#[]⟩, .string ⟨#[]⟩, .int .i64 0, .string ⟨#[]⟩, .int .i64 0]) := Lib.hid (Arr.fresh W1q _ _)
          have HM29q := Lib.hid (And.intro (HM3q.out.1.on hb) (HM3q.out.2.on hb))
          have hq30q : w1b.heap.size ≤ W1q.heap.size := HS2q.out.size
          clear hb
          refine hK.out _ _ HS27q.out (fun hHeld => ?_)
          clear hK K
          (try simp only [Act.put, List.setIfInBounds_toArray, List.set_cons_zero, List.set_cons_succ])
          generalize W1q.heap.size = b31q at HA28q hq30q ⊢
          generalize W1q.alloc (.cells #[.slice none 0 0, .slice none 0 0, .slice none 0 0, .string ⟨#[]⟩, .string ⟨#[]⟩, .string ⟨#[]⟩, .string ⟨#[]⟩, .int .i64 0, .string ⟨#[]⟩, .int .i64 0] 37) = W26q at HS27q HA28q HM29q hHeld ⊢
          refine wpAnyH_ready (rs := [3]) (by kernel_rfl) (by simp) ?_
          refine AllReadyH.cons rfl (fun K hK => ?_) AllReadyH.nil
          rw [if_pos (by rfl)]
          go_simp
          go_fit (i9 _)
          rintro e W32q ⟨rfl, hb⟩
          have HS33q := Lib.hid (HS27q.out.trans (hb.mono HS27q.out.size))
          have HM34q := Lib.hid (And.intro (HM29q.out.1.on hb) (HM29q.out.2.on hb))
          have HA35q := Lib.hid (arr9_on HA28q.out hb)
          clear hb
          refine hK.out _ _ HS33q.out (fun hHeld => ?_)
          clear hK K
          (try simp only [Act.put, List.setIfInBounds_toArray, List.set_cons_zero, List.set_cons_succ])
          refine wpAnyH_ready (rs := [4]) (by kernel_rfl) (by simp) ?_
          refine AllReadyH.cons rfl (fun K hK => ?_) AllReadyH.nil
          rw [if_pos (by rfl)]
          go_simp
          go_fit (i3 q1 q2 qk1 qk2 w1b.heap.size _ hz2 hz3 hz4 (ms_le hz1 hq0 hq1) HM34q.out.1 HM34q.out.2)
          rintro e W36q ⟨⟨p1, pk1, p2, pk2, p3, pk3, rfl, hv⟩, hb⟩
          have HV38q : Hid (RoOwn w1b.heap.size W36q R p1 pk1 p2 pk2 p3 pk3) := Lib.hid (RoOwn.mono hv HS33q.out.size)
          clear hv
          have HS37q := Lib.hid (HS33q.out.trans (hb.mono HS33q.out.size))
          have HA39q := Lib.hid (arr9_on HA35q.out hb)
          clear hb
          refine hK.out _ _ HS37q.out (fun hHeld => ?_)
          clear hK K
          (try simp only [Act.put, List.setIfInBounds_toArray, List.set_cons_zero, List.set_cons_succ])
          refine wpAnyH_ready (rs := [6]) (by kernel_rfl) (by simp) ?_
          refine AllReadyH.cons rfl (fun K hK => ?_) AllReadyH.nil
          rw [if_pos (by rfl)]
          obtain ⟨⟨x0, x1, x2, x3, x4, x5, x6, x7, x8, x9⟩, y0, y1, y2, y3, y4, y5, y6, y7, y8, y9⟩ := ten_all HA39q.out
          go_simp
          have hE := arr_put10 HA39q.out (.slice p1 R.l.length pk1) (.slice p2 R.ks.length pk2) (.slice p3 R.to.length pk3) (.string R.bk.k) (.string R.bk.t) (.string R.bk.f) (.string R.bk.o) (.int .i64 R.bk.n) (.string R.bk.b) (.int .i64 R.c)
          have hRf := below_put10 HS37q.out hq30q (.slice p1 R.l.length pk1) (.slice p2 R.ks.length pk2) (.slice p3 R.to.length pk3) (.string R.bk.k) (.string R.bk.t) (.string R.bk.f) (.string R.bk.o) (.int .i64 R.bk.n) (.string R.bk.b) (.int .i64 R.c)
          have hc1 := own_far10 HV38q.out.1 (own_ne10 HV38q.out.1 HA39q.out (by decide)) (.slice p1 R.l.length pk1) (.slice p2 R.ks.length pk2) (.slice p3 R.to.length pk3) (.string R.bk.k) (.string R.bk.t) (.string R.bk.f) (.string R.bk.o) (.int .i64 R.bk.n) (.string R.bk.b) (.int .i64 R.c)
          have hc2 := own_far10 HV38q.out.2.1 (own_ne10 HV38q.out.2.1 HA39q.out (by decide)) (.slice p1 R.l.length pk1) (.slice p2 R.ks.length pk2) (.slice p3 R.to.length pk3) (.string R.bk.k) (.string R.bk.t) (.string R.bk.f) (.string R.bk.o) (.int .i64 R.bk.n) (.string R.bk.b) (.int .i64 R.c)
          have hc3 := own_far10 HV38q.out.2.2 (own_ne10 HV38q.out.2.2 HA39q.out (by decide)) (.slice p1 R.l.length pk1) (.slice p2 R.ks.length pk2) (.slice p3 R.to.length pk3) (.string R.bk.k) (.string R.bk.t) (.string R.bk.f) (.string R.bk.o) (.int .i64 R.bk.n) (.string R.bk.b) (.int .i64 R.c)
          refine hK.out _ _ hRf (fun hHeld => ?_)
          clear hK K
          (try simp only [Act.put, List.setIfInBounds_toArray, List.set_cons_zero, List.set_cons_succ])
          refine wpAnyH_done (by kernel_rfl) ?_ _
          exact ⟨⟨b31q, p1, pk1, p2, pk2, p3, pk3, rfl, hq30q, ⟨hE, hc1, hc2, hc3⟩, hRf⟩, by simp only [putAll, Act.put, List.setIfInBounds_toArray, List.set_cons_zero, List.set_cons_succ]; rfl⟩
      · skip
        rw [if_pos (by rfl)]
        go_simp
        have hb : Below wd.heap.size wd (wd.alloc (.cells #[.slice none 0 0, .slice none 0 0, .slice none 0 0, .string ⟨#[]⟩, .string ⟨#[]⟩, .string ⟨#[]⟩, .string ⟨#[]⟩, .int .i64 0, .string ⟨#[]⟩, .int .i64 0] 37)) := ((Below.refl _ _).alloc (Nat.le_refl _) _)
        have HS41q := Lib.hid (HS0.out.trans (hb.mono HS0.out.size))
        have HA42q : Hid (Arr (wd.alloc (.cells #[.slice none 0 0, .slice none 0 0, .slice none 0 0, .string ⟨#[]⟩, .string ⟨#[]⟩, .string ⟨#[]⟩, .string ⟨#[]⟩, .int .i64 0, .string ⟨#[]⟩, .int .i64 0] 37)) wd.heap.size 37 [.slice none 0 0, .slice none 0 0, .slice none 0 0, .string ⟨#[]⟩, .string ⟨#[]⟩, .string ⟨#[]⟩, .string ⟨#[]⟩, .int .i64 0, .string ⟨#[]⟩, .int .i64 0]) := Lib.hid (Arr.fresh wd _ _)
        have hq43q : w1b.heap.size ≤ wd.heap.size := HS0.out.size
        clear hb
        refine hK.out _ _ HS41q.out (fun hHeld => ?_)
        clear hK K
        (try simp only [Act.put, List.setIfInBounds_toArray, List.set_cons_zero, List.set_cons_succ])
        generalize wd.heap.size = b44q at HA42q hq43q ⊢
        generalize wd.alloc (.cells #[.slice none 0 0, .slice none 0 0, .slice none 0 0, .string ⟨#[]⟩, .string ⟨#[]⟩, .string ⟨#[]⟩, .string ⟨#[]⟩, .int .i64 0, .string ⟨#[]⟩, .int .i64 0] 37) = W40q at HS41q HA42q hHeld ⊢
        refine wpAnyH_ready (rs := [1]) (by kernel_rfl) (by simp) ?_
        refine AllReadyH.cons rfl (fun K hK => ?_) AllReadyH.nil
        rw [if_pos (by rfl)]
        go_simp
        go_fit (i2 hz2 _ ((HD1b.out.on HS41q.out).2.2))
        rintro e W45q ⟨⟨q1, qk1, q2, qk2, rfl, hv⟩, hb⟩
        have HM47q := Lib.hid (And.intro (hv.1.mono HS41q.out.size) (hv.2.mono HS41q.out.size))
        clear hv
        have HS46q := Lib.hid (HS41q.out.trans (hb.mono HS41q.out.size))
        have HA48q := Lib.hid (arr9_on HA42q.out hb)
        clear hb
        refine hK.out _ _ HS46q.out (fun hHeld => ?_)
        clear hK K
        (try simp only [Act.put, List.setIfInBounds_toArray, List.set_cons_zero, List.set_cons_succ])
        refine wpAnyH_ready (rs := [3]) (by kernel_rfl) (by simp) ?_
        refine AllReadyH.cons rfl (fun K hK => ?_) AllReadyH.nil
        rw [if_pos (by rfl)]
        go_simp
        go_fit (i9 _)
        rintro e W49q ⟨rfl, hb⟩
        have HS50q := Lib.hid (HS46q.out.trans (hb.mono HS46q.out.size))
        have HM51q := Lib.hid (And.intro (HM47q.out.1.on hb) (HM47q.out.2.on hb))
        have HA52q := Lib.hid (arr9_on HA48q.out hb)
        clear hb
        refine hK.out _ _ HS50q.out (fun hHeld => ?_)
        clear hK K
        (try simp only [Act.put, List.setIfInBounds_toArray, List.set_cons_zero, List.set_cons_succ])
        refine wpAnyH_ready (rs := [4]) (by kernel_rfl) (by simp) ?_
        refine AllReadyH.cons rfl (fun K hK => ?_) AllReadyH.nil
        rw [if_pos (by rfl)]
        go_simp
        go_fit (i3 q1 q2 qk1 qk2 w1b.heap.size _ hz2 hz3 hz4 (ms_le hz1 hq0 hq1) HM51q.out.1 HM51q.out.2)
        rintro e W53q ⟨⟨p1, pk1, p2, pk2, p3, pk3, rfl, hv⟩, hb⟩
        have HV55q : Hid (RoOwn w1b.heap.size W53q R p1 pk1 p2 pk2 p3 pk3) := Lib.hid (RoOwn.mono hv HS50q.out.size)
        clear hv
        have HS54q := Lib.hid (HS50q.out.trans (hb.mono HS50q.out.size))
        have HA56q := Lib.hid (arr9_on HA52q.out hb)
        clear hb
        refine hK.out _ _ HS54q.out (fun hHeld => ?_)
        clear hK K
        (try simp only [Act.put, List.setIfInBounds_toArray, List.set_cons_zero, List.set_cons_succ])
        refine wpAnyH_ready (rs := [6]) (by kernel_rfl) (by simp) ?_
        refine AllReadyH.cons rfl (fun K hK => ?_) AllReadyH.nil
        rw [if_pos (by rfl)]
        obtain ⟨⟨x0, x1, x2, x3, x4, x5, x6, x7, x8, x9⟩, y0, y1, y2, y3, y4, y5, y6, y7, y8, y9⟩ := ten_all HA56q.out
        go_simp
        have hE := arr_put10 HA56q.out (.slice p1 R.l.length pk1) (.slice p2 R.ks.length pk2) (.slice p3 R.to.length pk3) (.string R.bk.k) (.string R.bk.t) (.string R.bk.f) (.string R.bk.o) (.int .i64 R.bk.n) (.string R.bk.b) (.int .i64 R.c)
        have hRf := below_put10 HS54q.out hq43q (.slice p1 R.l.length pk1) (.slice p2 R.ks.length pk2) (.slice p3 R.to.length pk3) (.string R.bk.k) (.string R.bk.t) (.string R.bk.f) (.string R.bk.o) (.int .i64 R.bk.n) (.string R.bk.b) (.int .i64 R.c)
        have hc1 := own_far10 HV55q.out.1 (own_ne10 HV55q.out.1 HA56q.out (by decide)) (.slice p1 R.l.length pk1) (.slice p2 R.ks.length pk2) (.slice p3 R.to.length pk3) (.string R.bk.k) (.string R.bk.t) (.string R.bk.f) (.string R.bk.o) (.int .i64 R.bk.n) (.string R.bk.b) (.int .i64 R.c)
        have hc2 := own_far10 HV55q.out.2.1 (own_ne10 HV55q.out.2.1 HA56q.out (by decide)) (.slice p1 R.l.length pk1) (.slice p2 R.ks.length pk2) (.slice p3 R.to.length pk3) (.string R.bk.k) (.string R.bk.t) (.string R.bk.f) (.string R.bk.o) (.int .i64 R.bk.n) (.string R.bk.b) (.int .i64 R.c)
        have hc3 := own_far10 HV55q.out.2.2 (own_ne10 HV55q.out.2.2 HA56q.out (by decide)) (.slice p1 R.l.length pk1) (.slice p2 R.ks.length pk2) (.slice p3 R.to.length pk3) (.string R.bk.k) (.string R.bk.t) (.string R.bk.f) (.string R.bk.o) (.int .i64 R.bk.n) (.string R.bk.b) (.int .i64 R.c)
        refine hK.out _ _ hRf (fun hHeld => ?_)
        clear hK K
        (try simp only [Act.put, List.setIfInBounds_toArray, List.set_cons_zero, List.set_cons_succ])
        refine wpAnyH_done (by kernel_rfl) ?_ _
        exact ⟨⟨b44q, p1, pk1, p2, pk2, p3, pk3, rfl, hq43q, ⟨hE, hc1, hc2, hc3⟩, hRf⟩, by simp only [putAll, Act.put, List.setIfInBounds_toArray, List.set_cons_zero, List.set_cons_succ]; rfl⟩
    · rintro vs w3 ⟨b2, p1, pk1, p2, pk2, p3, pk3, eb2, hB2, hO, hS⟩
      have HD3 := Lib.hid (HD1b.out.on hS)
      have HB3 := Lib.hid hO
      have hb2l : b2 < w3.heap.size := arr9_lt hO.1
      have HW2 : Hid (w.heap.size + 1 < b2) := Lib.hid (Nat.lt_of_lt_of_le (arr9_lt HD1b.out.2.1) hB2)
      simp only [putAll, Act.put, List.setIfInBounds_toArray, List.set_cons_zero, List.set_cons_succ, eb2]
      clear eb2 hO hS c0 c1 d0 d1 d2 d3 d4 d5 hzA hzB
      obtain ⟨⟨c0, c1⟩, _⟩ := arr9_two HD3.out.1; have hzA := arr9_lt HD3.out.1; obtain ⟨⟨d0, d1, d2, d3, d4, d5⟩, _⟩ := arr_six0 HD3.out.2.1; have hzB := arr9_lt HD3.out.2.1
      obtain ⟨⟨a0, a1, a2, a3, a4, a5, a6, a7, a8, a9⟩, az⟩ := arr_ten (HB3.out.1)
      go_wp2_with (first | (go_at_call 9; have _ := HD3; go_fit (i2 hz2 _ HD3.out.2.2); rintro e w4 ⟨⟨m1, mk1, m2, mk2, rfl, hv⟩, hb⟩; have HD4 := Lib.hid (HD3.out.on hb); have HB4 := Lib.hid (HB3.out.on hb); have HV4 := Lib.hid hv; have HW4 : Hid (w3.heap.size ≤ w4.heap.size) := Lib.hid hb.size; clear hb hv; obtain ⟨⟨c0, c1⟩, _⟩ := arr9_two HD4.out.1; have hzA := arr9_lt HD4.out.1; obtain ⟨⟨d0, d1, d2, d3, d4, d5⟩, _⟩ := arr_six0 HD4.out.2.1; have hzB := arr9_lt HD4.out.2.1; obtain ⟨⟨a0, a1, a2, a3, a4, a5, a6, a7, a8, a9⟩, az⟩ := arr_ten (HB4.out.1)))
      have HD5 := Lib.hid (HD4.out.on ((Below.refl _ _).alloc (Nat.le_refl _) (.cells #[.slice m1 len mk1, .slice m2 lem mk2] 33)))
      have HB5 := Lib.hid (HB4.out.on ((Below.refl _ _).alloc (Nat.le_refl _) (.cells #[.slice m1 len mk1, .slice m2 lem mk2] 33)))
      have HX5 := Lib.hid (MxBox.new HV4.out)
      have HW5 : Hid (w4.heap.size < (w4.alloc (.cells #[.slice m1 len mk1, .slice m2 lem mk2] 33)).heap.size) := Lib.hid (by simp)
      generalize w4.alloc (.cells #[.slice m1 len mk1, .slice m2 lem mk2] 33) = w5 at HD5 HB5 HX5 HW5 ⊢
      clear c0 c1 d0 d1 d2 d3 d4 d5 hzA hzB a0 a1 a2 a3 a4 a5 a6 a7 a8 a9 az
      refine region_join [30, 31, 32, 33, 8] (fun vs W => ∃ b g1 gk1 g2 gk2 g3 gk3, vs 8 = .pointer (some ⟨b, 0, none⟩) ∧ w5.heap.size ≤ b ∧ RoBox b (w5.heap.size) W R g1 gk1 g2 gk2 g3 gk3 ∧ Below w5.heap.size w5 W) ?_ ?_
      · refine wp_region_held_drew (S := fun W => Below w5.heap.size w5 W) (by kernel_rfl) (Below.refl _ _).drew (fun hHeld => ?_)
        have HS0 : Hid (Below w5.heap.size w5 (w5.drew)) := Lib.hid (Below.refl _ _).drew
        generalize World.drew _ = wd at HS0 hHeld ⊢
        skip
        refine takeQ (i := 0) (k := 30) (v := .agg #[.slice m1 len mk1, .slice m2 lem mk2]) rfl (by rfl) (by kernel_rfl) (by kernel_rfl) (by kernel_rfl) (fun _ _ _ h => h) (by rfl) ?_ hHeld ?_
        · intro w1 hSw; obtain ⟨⟨d0, d1, d2, d3, d4, d5⟩, _⟩ := arr_six0 (HD5.out.on hSw).2.1; obtain ⟨⟨b0, b1⟩, _⟩ := arr9_two (HX5.out.on hSw).1; go_simp
        (try simp only [Act.put, List.setIfInBounds_toArray, List.set_cons_zero, List.set_cons_succ])
        refine takeQ (i := 1) (k := 31) (v := .agg #[.string s.k, .string s.t, .string s.f, .string s.o, .int .i64 s.n, .string s.b]) rfl (by rfl) (by kernel_rfl) (by kernel_rfl) (by kernel_rfl) (fun _ _ _ h => h) (by rfl) ?_ hHeld ?_
        · intro w1 hSw; obtain ⟨⟨d0, d1, d2, d3, d4, d5⟩, _⟩ := arr_six0 (HD5.out.on hSw).2.1; obtain ⟨⟨b0, b1⟩, _⟩ := arr9_two (HX5.out.on hSw).1; go_simp
        (try simp only [Act.put, List.setIfInBounds_toArray, List.set_cons_zero, List.set_cons_succ])
        refine wpAnyH_ready (rs := [2, 4]) (by kernel_rfl) (by simp) ?_
        refine AllReadyH.cons rfl (fun K hK => ?_) (AllReadyH.cons rfl (fun K hK => ?_) AllReadyH.nil)
        · skip
          rw [if_pos (by rfl)]
          go_simp
          go_fit (i9 _)
          rintro e W57q ⟨rfl, hb⟩
          have HS58q := Lib.hid (HS0.out.trans (hb.mono HS0.out.size))
          clear hb
          refine hK.out _ _ HS58q.out (fun hHeld => ?_)
          clear hK K
          (try simp only [Act.put, List.setIfInBounds_toArray, List.set_cons_zero, List.set_cons_succ])
          refine wpAnyH_ready (rs := [3, 4]) (by kernel_rfl) (by simp) ?_
          refine AllReadyH.cons rfl (fun K hK => ?_) (AllReadyH.cons rfl (fun K hK => ?_) AllReadyH.nil)
          · skip
            rw [if_pos (by rfl)]
            go_simp
            go_fit (i4 m1 m2 mk1 mk2 _ hz2 hz3 hz4 (ms_le hz1 hq0 hq1) (row_ownS (HX5.out.on HS58q.out).2.1) (row_ownM (HX5.out.on HS58q.out).2.2) (HM.out _ (HD5.out.on HS58q.out).2.2))
            rintro e W59q ⟨⟨g1, gk1, g2, gk2, g3, gk3, rfl, hv⟩, hb⟩
            have HV61q : Hid (RoOwn w5.heap.size W59q R g1 gk1 g2 gk2 g3 gk3) := Lib.hid (RoOwn.mono hv HS58q.out.size)
            clear hv
            have HS60q := Lib.hid (HS58q.out.trans (hb.mono HS58q.out.size))
            clear hb
            refine hK.out _ _ HS60q.out (fun hHeld => ?_)
            clear hK K
            (try simp only [Act.put, List.setIfInBounds_toArray, List.set_cons_zero, List.set_cons_succ])
            refine wpAnyH_ready (rs := [4]) (by kernel_rfl) (by simp) ?_
            refine AllReadyH.cons rfl (fun K hK => ?_) AllReadyH.nil
            rw [if_pos (by rfl)]
            go_simp
            have hb : Below W59q.heap.size W59q (W59q.alloc (.cells #[.slice none 0 0, .slice none 0 0, .slice none 0 0, .string ⟨#[]⟩, .string ⟨#[]⟩, .string ⟨#[]⟩, .string ⟨#[]⟩, .int .i64 0, .string ⟨#[]⟩, .int .i64 0] 37)) := ((Below.refl _ _).alloc (Nat.le_refl _) _)
            have HS63q := Lib.hid (HS60q.out.trans (hb.mono HS60q.out.size))
            have HA64q : Hid (Arr (W59q.alloc (.cells #[.slice none 0 0, .slice none 0 0, .slice none 0 0, .string ⟨#[]⟩, .string ⟨#[]⟩, .string ⟨#[]⟩, .string ⟨#[]⟩, .int .i64 0, .string ⟨#[]⟩, .int .i64 0] 37)) W59q.heap.size 37 [.slice none 0 0, .slice none 0 0, .slice none 0 0, .string ⟨#[]⟩, .string ⟨#[]⟩, .string ⟨#[]⟩, .string ⟨#[]⟩, .int .i64 0, .string ⟨#[]⟩, .int .i64 0]) := Lib.hid (Arr.fresh W59q _ _)
            have HV65q := Lib.hid (HV61q.out.on hb)
            have hq66q : w5.heap.size ≤ W59q.heap.size := HS60q.out.size
            clear hb
            refine hK.out _ _ HS63q.out (fun hHeld => ?_)
            clear hK K
            (try simp only [Act.put, List.setIfInBounds_toArray, List.set_cons_zero, List.set_cons_succ])
            generalize W59q.heap.size = b67q at HA64q hq66q ⊢
            generalize W59q.alloc (.cells #[.slice none 0 0, .slice none 0 0, .slice none 0 0, .string ⟨#[]⟩, .string ⟨#[]⟩, .string ⟨#[]⟩, .string ⟨#[]⟩, .int .i64 0, .string ⟨#[]⟩, .int .i64 0] 37) = W62q at HS63q HA64q HV65q hHeld ⊢
            refine wpAnyH_ready (rs := [5]) (by kernel_rfl) (by simp) ?_
            refine AllReadyH.cons rfl (fun K hK => ?_) AllReadyH.nil
            rw [if_pos (by rfl)]
            obtain ⟨⟨x0, x1, x2, x3, x4, x5, x6, x7, x8, x9⟩, y0, y1, y2, y3, y4, y5, y6, y7, y8, y9⟩ := ten_all HA64q.out
            go_simp
            have hE := arr_put10 HA64q.out (.slice g1 R.l.length gk1) (.slice g2 R.ks.length gk2) (.slice g3 R.to.length gk3) (.string R.bk.k) (.string R.bk.t) (.string R.bk.f) (.string R.bk.o) (.int .i64 R.bk.n) (.string R.bk.b) (.int .i64 R.c)
            have hRf := below_put10 HS63q.out hq66q (.slice g1 R.l.length gk1) (.slice g2 R.ks.length gk2) (.slice g3 R.to.length gk3) (.string R.bk.k) (.string R.bk.t) (.string R.bk.f) (.string R.bk.o) (.int .i64 R.bk.n) (.string R.bk.b) (.int .i64 R.c)
            have hc1 := own_far10 HV65q.out.1 (own_ne10 HV65q.out.1 HA64q.out (by decide)) (.slice g1 R.l.length gk1) (.slice g2 R.ks.length gk2) (.slice g3 R.to.length gk3) (.string R.bk.k) (.string R.bk.t) (.string R.bk.f) (.string R.bk.o) (.int .i64 R.bk.n) (.string R.bk.b) (.int .i64 R.c)
            have hc2 := own_far10 HV65q.out.2.1 (own_ne10 HV65q.out.2.1 HA64q.out (by decide)) (.slice g1 R.l.length gk1) (.slice g2 R.ks.length gk2) (.slice g3 R.to.length gk3) (.string R.bk.k) (.string R.bk.t) (.string R.bk.f) (.string R.bk.o) (.int .i64 R.bk.n) (.string R.bk.b) (.int .i64 R.c)
            have hc3 := own_far10 HV65q.out.2.2 (own_ne10 HV65q.out.2.2 HA64q.out (by decide)) (.slice g1 R.l.length gk1) (.slice g2 R.ks.length gk2) (.slice g3 R.to.length gk3) (.string R.bk.k) (.string R.bk.t) (.string R.bk.f) (.string R.bk.o) (.int .i64 R.bk.n) (.string R.bk.b) (.int .i64 R.c)
            refine hK.out _ _ hRf (fun hHeld => ?_)
            clear hK K
            (try simp only [Act.put, List.setIfInBounds_toArray, List.set_cons_zero, List.set_cons_succ])
            refine wpAnyH_done (by kernel_rfl) ?_ _
            exact ⟨⟨b67q, g1, gk1, g2, gk2, g3, gk3, rfl, hq66q, ⟨hE, hc1, hc2, hc3⟩, hRf⟩, by simp only [putAll, Act.put, List.setIfInBounds_toArray, List.set_cons_zero, List.set_cons_succ]; rfl⟩
          · skip
            rw [if_pos (by rfl)]
            go_simp
            have hb : Below W57q.heap.size W57q (W57q.alloc (.cells #[.slice none 0 0, .slice none 0 0, .slice none 0 0, .string ⟨#[]⟩, .string ⟨#[]⟩, .string ⟨#[]⟩, .string ⟨#[]⟩, .int .i64 0, .string ⟨#[]⟩, .int .i64 0] 37)) := ((Below.refl _ _).alloc (Nat.le_refl _) _)
            have HS69q := Lib.hid (HS58q.out.trans (hb.mono HS58q.out.size))
            have HA70q : Hid (Arr (W57q.alloc (.cells #[.slice none 0 0, .slice none 0 0, .slice none 0 0, .string ⟨#[]⟩, .string ⟨#[]⟩, .string ⟨#[]⟩, .string ⟨#[]⟩, .int .i64 0, .string ⟨#[]⟩, .int .i64 0] 37)) W57q.heap.size 37 [.slice none 0 0, .slice none 0 0, .slice none 0 0, .string ⟨#[]⟩, .string ⟨#[]⟩, .string ⟨#[]⟩, .string ⟨#[]⟩, .int .i64 0, .string ⟨#[]⟩, .int .i64 0]) := Lib.hid (Arr.fresh W57q _ _)
            have hq71q : w5.heap.size ≤ W57q.heap.size := HS58q.out.size
            clear hb
            refine hK.out _ _ HS69q.out (fun hHeld => ?_)
            clear hK K
            (try simp only [Act.put, List.setIfInBounds_toArray, List.set_cons_zero, List.set_cons_succ])
            generalize W57q.heap.size = b72q at HA70q hq71q ⊢
            generalize W57q.alloc (.cells #[.slice none 0 0, .slice none 0 0, .slice none 0 0, .string ⟨#[]⟩, .string ⟨#[]⟩, .string ⟨#[]⟩, .string ⟨#[]⟩, .int .i64 0, .string ⟨#[]⟩, .int .i64 0] 37) = W68q at HS69q HA70q hHeld ⊢
            refine wpAnyH_ready (rs := [3]) (by kernel_rfl) (by simp) ?_
            refine AllReadyH.cons rfl (fun K hK => ?_) AllReadyH.nil
            rw [if_pos (by rfl)]
            go_simp
            go_fit (i4 m1 m2 mk1 mk2 _ hz2 hz3 hz4 (ms_le hz1 hq0 hq1) (row_ownS (HX5.out.on HS69q.out).2.1) (row_ownM (HX5.out.on HS69q.out).2.2) (HM.out _ (HD5.out.on HS69q.out).2.2))
            rintro e W73q ⟨⟨g1, gk1, g2, gk2, g3, gk3, rfl, hv⟩, hb⟩
            have HV75q : Hid (RoOwn w5.heap.size W73q R g1 gk1 g2 gk2 g3 gk3) := Lib.hid (RoOwn.mono hv HS69q.out.size)
            clear hv
            have HS74q := Lib.hid (HS69q.out.trans (hb.mono HS69q.out.size))
            have HA76q := Lib.hid (arr9_on HA70q.out hb)
            clear hb
            refine hK.out _ _ HS74q.out (fun hHeld => ?_)
            clear hK K
            (try simp only [Act.put, List.setIfInBounds_toArray, List.set_cons_zero, List.set_cons_succ])
            refine wpAnyH_ready (rs := [5]) (by kernel_rfl) (by simp) ?_
            refine AllReadyH.cons rfl (fun K hK => ?_) AllReadyH.nil
            rw [if_pos (by rfl)]
            obtain ⟨⟨x0, x1, x2, x3, x4, x5, x6, x7, x8, x9⟩, y0, y1, y2, y3, y4, y5, y6, y7, y8, y9⟩ := ten_all HA76q.out
            go_simp
            have hE := arr_put10 HA76q.out (.slice g1 R.l.length gk1) (.slice g2 R.ks.length gk2) (.slice g3 R.to.length gk3) (.string R.bk.k) (.string R.bk.t) (.string R.bk.f) (.string R.bk.o) (.int .i64 R.bk.n) (.string R.bk.b) (.int .i64 R.c)
            have hRf := below_put10 HS74q.out hq71q (.slice g1 R.l.length gk1) (.slice g2 R.ks.length gk2) (.slice g3 R.to.length gk3) (.string R.bk.k) (.string R.bk.t) (.string R.bk.f) (.string R.bk.o) (.int .i64 R.bk.n) (.string R.bk.b) (.int .i64 R.c)
            have hc1 := own_far10 HV75q.out.1 (own_ne10 HV75q.out.1 HA76q.out (by decide)) (.slice g1 R.l.length gk1) (.slice g2 R.ks.length gk2) (.slice g3 R.to.length gk3) (.string R.bk.k) (.string R.bk.t) (.string R.bk.f) (.string R.bk.o) (.int .i64 R.bk.n) (.string R.bk.b) (.int .i64 R.c)
            have hc2 := own_far10 HV75q.out.2.1 (own_ne10 HV75q.out.2.1 HA76q.out (by decide)) (.slice g1 R.l.length gk1) (.slice g2 R.ks.length gk2) (.slice g3 R.to.length gk3) (.string R.bk.k) (.string R.bk.t) (.string R.bk.f) (.string R.bk.o) (.int .i64 R.bk.n) (.string R.bk.b) (.int .i64 R.c)
            have hc3 := own_far10 HV75q.out.2.2 (own_ne10 HV75q.out.2.2 HA76q.out (by decide)) (.slice g1 R.l.length gk1) (.slice g2 R.ks.length gk2) (.slice g3 R.to.length gk3) (.string R.bk.k) (.string R.bk.t) (.string R.bk.f) (.string R.bk.o) (.int .i64 R.bk.n) (.string R.bk.b) (.int .i64 R.c)
            refine hK.out _ _ hRf (fun hHeld => ?_)
            clear hK K
            (try simp only [Act.put, List.setIfInBounds_toArray, List.set_cons_zero, List.set_cons_succ])
            refine wpAnyH_done (by kernel_rfl) ?_ _
            exact ⟨⟨b72q, g1, gk1, g2, gk2, g3, gk3, rfl, hq71q, ⟨hE, hc1, hc2, hc3⟩, hRf⟩, by simp only [putAll, Act.put, List.setIfInBounds_toArray, List.set_cons_zero, List.set_cons_succ]; rfl⟩
        · skip
          rw [if_pos (by rfl)]
          go_simp
          have hb : Below wd.heap.size wd (wd.alloc (.cells #[.slice none 0 0, .slice none 0 0, .slice none 0 0, .string ⟨#[]⟩, .string ⟨#[]⟩, .string ⟨#[]⟩, .string ⟨#[]⟩, .int .i64 0, .string ⟨#[]⟩, .int .i64 0] 37)) := ((Below.refl _ _).alloc (Nat.le_refl _) _)
          have HS78q := Lib.hid (HS0.out.trans (hb.mono HS0.out.size))
          have HA79q : Hid (Arr (wd.alloc (.cells #[.slice none 0 0, .slice none 0 0, .slice none 0 0, .string ⟨#[]⟩, .string ⟨#[]⟩, .string ⟨#[]⟩, .string ⟨#[]⟩, .int .i64 0, .string ⟨#[]⟩, .int .i64 0] 37)) wd.heap.size 37 [.slice none 0 0, .slice none 0 0, .slice none 0 0, .string ⟨#[]⟩, .string ⟨#[]⟩, .string ⟨#[]⟩, .string ⟨#[]⟩, .int .i64 0, .string ⟨#[]⟩, .int .i64 0]) := Lib.hid (Arr.fresh wd _ _)
          have hq80q : w5.heap.size ≤ wd.heap.size := HS0.out.size
          clear hb
          refine hK.out _ _ HS78q.out (fun hHeld => ?_)
          clear hK K
          (try simp only [Act.put, List.setIfInBounds_toArray, List.set_cons_zero, List.set_cons_succ])
          generalize wd.heap.size = b81q at HA79q hq80q ⊢
          generalize wd.alloc (.cells #[.slice none 0 0, .slice none 0 0, .slice none 0 0, .string ⟨#[]⟩, .string ⟨#[]⟩, .string ⟨#[]⟩, .string ⟨#[]⟩, .int .i64 0, .string ⟨#[]⟩, .int .i64 0] 37) = W77q at HS78q HA79q hHeld ⊢
          refine wpAnyH_ready (rs := [2]) (by kernel_rfl) (by simp) ?_
          refine AllReadyH.cons rfl (fun K hK => ?_) AllReadyH.nil
          rw [if_pos (by rfl)]
          go_simp
          go_fit (i9 _)
          rintro e W82q ⟨rfl, hb⟩
          have HS83q := Lib.hid (HS78q.out.trans (hb.mono HS78q.out.size))
          have HA84q := Lib.hid (arr9_on HA79q.out hb)
          clear hb
          refine hK.out _ _ HS83q.out (fun hHeld => ?_)
          clear hK K
          (try simp only [Act.put, List.setIfInBounds_toArray, List.set_cons_zero, List.set_cons_succ])
          refine wpAnyH_ready (rs := [3]) (by kernel_rfl) (by simp) ?_
          refine AllReadyH.cons rfl (fun K hK => ?_) AllReadyH.nil
          rw [if_pos (by rfl)]
          go_simp
          go_fit (i4 m1 m2 mk1 mk2 _ hz2 hz3 hz4 (ms_le hz1 hq0 hq1) (row_ownS (HX5.out.on HS83q.out).2.1) (row_ownM (HX5.out.on HS83q.out).2.2) (HM.out _ (HD5.out.on HS83q.out).2.2))
          rintro e W85q ⟨⟨g1, gk1, g2, gk2, g3, gk3, rfl, hv⟩, hb⟩
          have HV87q : Hid (RoOwn w5.heap.size W85q R g1 gk1 g2 gk2 g3 gk3) := Lib.hid (RoOwn.mono hv HS83q.out.size)
          clear hv
          have HS86q := Lib.hid (HS83q.out.trans (hb.mono HS83q.out.size))
          have HA88q := Lib.hid (arr9_on HA84q.out hb)
          clear hb
          refine hK.out _ _ HS86q.out (fun hHeld => ?_)
          clear hK K
          (try simp only [Act.put, List.setIfInBounds_toArray, List.set_cons_zero, List.set_cons_succ])
          refine wpAnyH_ready (rs := [5]) (by kernel_rfl) (by simp) ?_
          refine AllReadyH.cons rfl (fun K hK => ?_) AllReadyH.nil
          rw [if_pos (by rfl)]
          obtain ⟨⟨x0, x1, x2, x3, x4, x5, x6, x7, x8, x9⟩, y0, y1, y2, y3, y4, y5, y6, y7, y8, y9⟩ := ten_all HA88q.out
          go_simp
          have hE := arr_put10 HA88q.out (.slice g1 R.l.length gk1) (.slice g2 R.ks.length gk2) (.slice g3 R.to.length gk3) (.string R.bk.k) (.string R.bk.t) (.string R.bk.f) (.string R.bk.o) (.int .i64 R.bk.n) (.string R.bk.b) (.int .i64 R.c)
          have hRf := below_put10 HS86q.out hq80q (.slice g1 R.l.length gk1) (.slice g2 R.ks.length gk2) (.slice g3 R.to.length gk3) (.string R.bk.k) (.string R.bk.t) (.string R.bk.f) (.string R.bk.o) (.int .i64 R.bk.n) (.string R.bk.b) (.int .i64 R.c)
          have hc1 := own_far10 HV87q.out.1 (own_ne10 HV87q.out.1 HA88q.out (by decide)) (.slice g1 R.l.length gk1) (.slice g2 R.ks.length gk2) (.slice g3 R.to.length gk3) (.string R.bk.k) (.string R.bk.t) (.string R.bk.f) (.string R.bk.o) (.int .i64 R.bk.n) (.string R.bk.b) (.int .i64 R.c)
          have hc2 := own_far10 HV87q.out.2.1 (own_ne10 HV87q.out.2.1 HA88q.out (by decide)) (.slice g1 R.l.length gk1) (.slice g2 R.ks.length gk2) (.slice g3 R.to.length gk3) (.string R.bk.k) (.string R.bk.t) (.string R.bk.f) (.string R.bk.o) (.int .i64 R.bk.n) (.string R.bk.b) (.int .i64 R.c)
          have hc3 := own_far10 HV87q.out.2.2 (own_ne10 HV87q.out.2.2 HA88q.out (by decide)) (.slice g1 R.l.length gk1) (.slice g2 R.ks.length gk2) (.slice g3 R.to.length gk3) (.string R.bk.k) (.string R.bk.t) (.string R.bk.f) (.string R.bk.o) (.int .i64 R.bk.n) (.string R.bk.b) (.int .i64 R.c)
          refine hK.out _ _ hRf (fun hHeld => ?_)
          clear hK K
          (try simp only [Act.put, List.setIfInBounds_toArray, List.set_cons_zero, List.set_cons_succ])
          refine wpAnyH_done (by kernel_rfl) ?_ _
          exact ⟨⟨b81q, g1, gk1, g2, gk2, g3, gk3, rfl, hq80q, ⟨hE, hc1, hc2, hc3⟩, hRf⟩, by simp only [putAll, Act.put, List.setIfInBounds_toArray, List.set_cons_zero, List.set_cons_succ]; rfl⟩
      · rintro vs w6 ⟨b6, g1, gk1, g2, gk2, g3, gk3, eb6, hB6, hO, hS⟩
        have HD6 := Lib.hid (HD5.out.on hS)
        have H66 := Lib.hid (HB5.out.on hS)
        have H76 := Lib.hid (HX5.out.on hS)
        have H86 := Lib.hid hO
        have HB6 := Lib.hid hB6
        have HW6 : Hid (b6 < w6.heap.size) := Lib.hid (arr9_lt hO.1)
        simp only [putAll, Act.put, List.setIfInBounds_toArray, List.set_cons_zero, List.set_cons_succ, eb6]
        clear eb6 hO hS hB6
        obtain ⟨⟨c0, c1⟩, _⟩ := arr9_two HD6.out.1; have hzA := arr9_lt HD6.out.1; obtain ⟨⟨d0, d1, d2, d3, d4, d5⟩, _⟩ := arr_six0 HD6.out.2.1; have hzB := arr9_lt HD6.out.2.1; obtain ⟨⟨a0, a1, a2, a3, a4, a5, a6, a7, a8, a9⟩, az⟩ := arr_ten (H66.out.1); obtain ⟨⟨b0, b1⟩, _⟩ := arr9_two H76.out.1; have hzb := arr9_lt H76.out.1; obtain ⟨⟨e0, e1, e2, e3, e4, e5, e6, e7, e8, e9⟩, ez⟩ := arr_ten (H86.out.1)
        go_wp2_with (first | (go_at_call 12; have _ := HD6; go_fit (j1 g1 g2 g3 p1 p2 p3 gk1 gk2 gk3 pk1 pk2 pk3 _ _ _ H86.out.2 H66.out.2); rintro e w7 ⟨rfl, hb⟩; have HD7 := Lib.hid (HD6.out.on hb); have H67 := Lib.hid (H66.out.on hb); have H77 := Lib.hid (H76.out.on hb); have H87 := Lib.hid (H86.out.on hb); have HW7 : Hid (b6 < w7.heap.size) := Lib.hid (Nat.lt_of_lt_of_le HW6.out hb.size); clear hb; obtain ⟨⟨c0, c1⟩, _⟩ := arr9_two HD7.out.1; have hzA := arr9_lt HD7.out.1; obtain ⟨⟨d0, d1, d2, d3, d4, d5⟩, _⟩ := arr_six0 HD7.out.2.1; have hzB := arr9_lt HD7.out.2.1; obtain ⟨⟨a0, a1, a2, a3, a4, a5, a6, a7, a8, a9⟩, az⟩ := arr_ten (H67.out.1); obtain ⟨⟨b0, b1⟩, _⟩ := arr9_two H77.out.1; have hzb := arr9_lt H77.out.1; obtain ⟨⟨e0, e1, e2, e3, e4, e5, e6, e7, e8, e9⟩, ez⟩ := arr_ten (H87.out.1)))
        refine wp_region_held_drew (S := fun W => MxBox w4.heap.size w3.heap.size W xs ys m1 len mk1 m2 lem mk2 ∧ LwS w W a len cap b lem cam s) (by kernel_rfl) ⟨H77.out.on (Below.refl _ _).drew, HD7.out.on (Below.refl _ _).drew⟩ (fun hHeld => ?_)
        have H6d := Lib.hid (H67.out.on (Below.refl _ _).drew)
        have H8d := Lib.hid (H87.out.on (Below.refl _ _).drew)
        have HWd : Hid (b6 < w7.drew.heap.size) := HW7
        generalize w7.drew = wd at H6d H8d HWd hHeld ⊢
        clear c0 c1 d0 d1 d2 d3 d4 d5 a0 a1 a2 a3 a4 a5 a6 a7 a8 a9 az b0 b1 e0 e1 e2 e3 e4 e5 e6 e7 e8 e9 ez hzA hzB hzb
        refine takeQ (i := 0) (k := 38) (v := .agg #[.slice m1 len mk1, .slice m2 lem mk2]) rfl (by rfl) (by kernel_rfl) (by kernel_rfl) (by kernel_rfl) (fun _ _ _ h => h) (by rfl) ?_ hHeld ?_
        · intro w1 hSw; obtain ⟨⟨m0, m1⟩, _⟩ := arr9_two hSw.1.1; go_simp
        (try simp only [Act.put, List.setIfInBounds_toArray, List.set_cons_zero, List.set_cons_succ])
        refine takeQ (i := 1) (k := 39) (v := .agg #[.slice a len cap, .slice b lem cam]) rfl (by rfl) (by kernel_rfl) (by kernel_rfl) (by kernel_rfl) (fun _ _ _ h => h) (by rfl) ?_ hHeld ?_
        · intro w1 hSw; obtain ⟨⟨m0, m1⟩, _⟩ := arr9_two hSw.2.1; go_simp
        (try simp only [Act.put, List.setIfInBounds_toArray, List.set_cons_zero, List.set_cons_succ])
        refine wpAnyH_ready (rs := [2]) (by kernel_rfl) (by simp) ?_
        refine AllReadyH.cons rfl (fun K hK => ?_) AllReadyH.nil
        rw [if_pos (by rfl)]
        go_simp
        go_fit (i2 hz2 _ hHeld.2.2.2)
        rintro e w8 ⟨⟨n1, nk1, n2, nk2, rfl, hv⟩, hb8⟩
        have HV8 := Lib.hid hv
        have HS8 := Lib.hid (And.intro (hHeld.1.on hb8) (hHeld.2.on hb8))
        have H68 := Lib.hid (H6d.out.on hb8)
        have H88 := Lib.hid (H8d.out.on hb8)
        have HW8 : Hid (b6 < w8.heap.size) := Lib.hid (Nat.lt_of_lt_of_le HWd.out hb8.size)
        clear hHeld hb8 hv H6d H8d HWd
        refine hK.out _ _ HS8.out (fun hHeld => ?_)
        clear hK K
        (try simp only [Act.put, List.setIfInBounds_toArray, List.set_cons_zero, List.set_cons_succ])
        refine wpAnyH_ready (rs := [3]) (by kernel_rfl) (by simp) ?_
        refine AllReadyH.cons rfl (fun K hK => ?_) AllReadyH.nil
        rw [if_pos (by rfl)]
        go_simp
        go_fit (i5 m1 m2 n1 n2 mk1 mk2 nk1 nk2 _ hz2 (row_ownS hHeld.1.2.1) (row_ownS HV8.out.1) (row_ownM hHeld.1.2.2) (row_ownM HV8.out.2))
        rintro e w9 ⟨rfl, hb9⟩
        have HS9 := Lib.hid (And.intro (hHeld.1.on hb9) (hHeld.2.on hb9))
        have H69 := Lib.hid (H68.out.on hb9)
        have H89 := Lib.hid (H88.out.on hb9)
        have HW9 : Hid (b6 < w9.heap.size) := Lib.hid (Nat.lt_of_lt_of_le HW8.out hb9.size)
        clear hHeld hb9 H68 H88 HW8
        refine hK.out _ _ HS9.out (fun hHeld => ?_)
        clear hK K
        (try simp only [Act.put, List.setIfInBounds_toArray, List.set_cons_zero, List.set_cons_succ])
        refine takeQ (i := 4) (k := 42) (v := .bool false) rfl (by rfl) (by kernel_rfl) (by kernel_rfl) (by kernel_rfl) (fun _ _ _ h => h) (by rfl) ?_ hHeld ?_
        · intro w1 hSw; go_simp
        (try simp only [Act.put, List.setIfInBounds_toArray, List.set_cons_zero, List.set_cons_succ])
        refine wpAnyH_done (by kernel_rfl) ?_ _
        have H79 := Lib.hid HS9.out.1
        have HD9 := Lib.hid HS9.out.2
        clear hHeld HS9 HS8 HV8
        obtain ⟨⟨c0, c1⟩, _⟩ := arr9_two HD9.out.1; have hzA := arr9_lt HD9.out.1; obtain ⟨⟨d0, d1, d2, d3, d4, d5⟩, _⟩ := arr_six0 HD9.out.2.1; have hzB := arr9_lt HD9.out.2.1; obtain ⟨⟨a0, a1, a2, a3, a4, a5, a6, a7, a8, a9⟩, az⟩ := arr_ten (H69.out.1); obtain ⟨⟨b0, b1⟩, _⟩ := arr9_two H79.out.1; have hzb := arr9_lt H79.out.1; obtain ⟨⟨e0, e1, e2, e3, e4, e5, e6, e7, e8, e9⟩, ez⟩ := arr_ten (H89.out.1)
        have HR3 : Hid (RoLow w3.heap.size p1 p2 p3 R pk1 pk2 pk3) := Lib.hid ⟨fun j hj => (own_ltT HB3.out.2.1 j hj).2, fun j hj => (own_ltT HB3.out.2.2.1 j hj).2, fun j hj => (own_ltT HB3.out.2.2.2 j hj).2⟩
        go_wp2_with (first
          | (go_at_call 16; have _ := HD12; go_fit (j3 g1 g2 g3 gk1 gk2 gk3 _ _ H812.out.2); rintro e w13 ⟨rfl, hb⟩; have HD13 := Lib.hid (HD12.out.on hb); have H613 := Lib.hid (H612.out.on hb); have H813 := Lib.hid (H812.out.on hb); clear hb; obtain ⟨⟨c0, c1⟩, _⟩ := arr9_two HD13.out.1; have hzA := arr9_lt HD13.out.1; obtain ⟨⟨d0, d1, d2, d3, d4, d5⟩, _⟩ := arr_six0 HD13.out.2.1; have hzB := arr9_lt HD13.out.2.1; obtain ⟨⟨a0, a1, a2, a3, a4, a5, a6, a7, a8, a9⟩, az⟩ := arr_ten (H613.out.1); obtain ⟨⟨e0, e1, e2, e3, e4, e5, e6, e7, e8, e9⟩, ez⟩ := arr_ten (H813.out.1))
          | (go_at_call 15; have _ := HD11; go_fit (j2 g1 g2 g3 gk1 gk2 gk3 w5.heap.size _ (by have := HW11.out; have := HB6.out; omega) H811.out.2); rintro e w12 ⟨rfl, hM, hF⟩; have HD12 := Lib.hid (HD11.out.low hF.1 (by have := HW2.out; have := HW4.out; have := HW5.out; omega)); have H612 := Lib.hid (H611.out.low hF.1 (by have := HW4.out; have := HW5.out; omega) (HR3.out.mono (by have := HW4.out; have := HW5.out; omega))); have H812 := Lib.hid (H811.out.mark hM hF); clear hM hF; obtain ⟨⟨c0, c1⟩, _⟩ := arr9_two HD12.out.1; have hzA := arr9_lt HD12.out.1; obtain ⟨⟨d0, d1, d2, d3, d4, d5⟩, _⟩ := arr_six0 HD12.out.2.1; have hzB := arr9_lt HD12.out.2.1; obtain ⟨⟨a0, a1, a2, a3, a4, a5, a6, a7, a8, a9⟩, az⟩ := arr_ten (H612.out.1); obtain ⟨⟨e0, e1, e2, e3, e4, e5, e6, e7, e8, e9⟩, ez⟩ := arr_ten (H812.out.1))
          | (go_at_call 12; have _ := HD10; go_fit (j1 g1 g2 g3 p1 p2 p3 gk1 gk2 gk3 pk1 pk2 pk3 _ _ _ H810.out.2 H610.out.2); rintro e w11 ⟨rfl, hb⟩; have HD11 := Lib.hid (HD10.out.on hb); have H611 := Lib.hid (H610.out.on hb); have H811 := Lib.hid (H810.out.on hb); have HW11 : Hid (b6 < w11.heap.size) := Lib.hid (Nat.lt_of_lt_of_le HW10.out hb.size); clear hb; obtain ⟨⟨c0, c1⟩, _⟩ := arr9_two HD11.out.1; have hzA := arr9_lt HD11.out.1; obtain ⟨⟨d0, d1, d2, d3, d4, d5⟩, _⟩ := arr_six0 HD11.out.2.1; have hzB := arr9_lt HD11.out.2.1; obtain ⟨⟨a0, a1, a2, a3, a4, a5, a6, a7, a8, a9⟩, az⟩ := arr_ten (H611.out.1); obtain ⟨⟨e0, e1, e2, e3, e4, e5, e6, e7, e8, e9⟩, ez⟩ := arr_ten (H811.out.1))
          | (go_at_call 14; go_fit (i7 m1 m2 mk1 mk2 w3.heap.size _ hz2 (by have := HW9.out; have := HB6.out; have := HW5.out; have := HW4.out; omega) H79.out.2.1 H79.out.2.2); rintro e w10 ⟨rfl, -, hF⟩; have HD10 := Lib.hid (HD9.out.low hF.1 (by have := HW2.out; omega)); have H610 := Lib.hid (H69.out.low hF.1 hb2l HR3.out); have H810 := Lib.hid (H89.out.beside hF HB6.out (fun j hj => by have := (own_ltT HV4.out.1 j hj).2; have := HW5.out; omega) (fun j hj => by have := (own_ltT HV4.out.2 j hj).2; have := HW5.out; omega)); have HW10 : Hid (b6 < w10.heap.size) := Lib.hid (Nat.lt_of_lt_of_le HW9.out hF.2.1); clear hF; obtain ⟨⟨c0, c1⟩, _⟩ := arr9_two HD10.out.1; have hzA := arr9_lt HD10.out.1; obtain ⟨⟨d0, d1, d2, d3, d4, d5⟩, _⟩ := arr_six0 HD10.out.2.1; have hzB := arr9_lt HD10.out.2.1; obtain ⟨⟨a0, a1, a2, a3, a4, a5, a6, a7, a8, a9⟩, az⟩ := arr_ten (H610.out.1); obtain ⟨⟨e0, e1, e2, e3, e4, e5, e6, e7, e8, e9⟩, ez⟩ := arr_ten (H810.out.1)))
        clear c0 c1 d0 d1 d2 d3 d4 d5 a0 a1 a2 a3 a4 a5 a6 a7 a8 a9 az e0 e1 e2 e3 e4 e5 e6 e7 e8 e9 ez hzA hzB
        refine region_join [65, 66, 67, 68, 69, 12] (fun vs W => ∃ b v1 vk1 v2 vk2 v3 vk3, vs 12 = .pointer (some ⟨b, 0, none⟩) ∧ w13.heap.size ≤ b ∧ RoBox b (w13.heap.size) W R v1 vk1 v2 vk2 v3 vk3 ∧ Below w13.heap.size w13 W) ?_ ?_
        · refine wp_region_held_drew (S := fun W => Below w13.heap.size w13 W) (by kernel_rfl) (Below.refl _ _).drew (fun hHeld => ?_)
          have HS0 : Hid (Below w13.heap.size w13 (w13.drew)) := Lib.hid (Below.refl _ _).drew
          generalize World.drew _ = wd at HS0 hHeld ⊢
          skip
          refine takeQ (i := 0) (k := 65) (v := .agg #[.slice a len cap, .slice b lem cam]) rfl (by rfl) (by kernel_rfl) (by kernel_rfl) (by kernel_rfl) (fun _ _ _ h => h) (by rfl) ?_ hHeld ?_
          · intro w1 hSw; obtain ⟨⟨c0, c1⟩, _⟩ := arr9_two (HD13.out.on hSw).1; obtain ⟨⟨d0, d1, d2, d3, d4, d5⟩, _⟩ := arr_six0 (HD13.out.on hSw).2.1; go_simp
          (try simp only [Act.put, List.setIfInBounds_toArray, List.set_cons_zero, List.set_cons_succ])
          refine takeQ (i := 2) (k := 67) (v := .agg #[.string s.k, .string s.t, .string s.f, .string s.o, .int .i64 s.n, .string s.b]) rfl (by rfl) (by kernel_rfl) (by kernel_rfl) (by kernel_rfl) (fun _ _ _ h => h) (by rfl) ?_ hHeld ?_
          · intro w1 hSw; obtain ⟨⟨c0, c1⟩, _⟩ := arr9_two (HD13.out.on hSw).1; obtain ⟨⟨d0, d1, d2, d3, d4, d5⟩, _⟩ := arr_six0 (HD13.out.on hSw).2.1; go_simp
          (try simp only [Act.put, List.setIfInBounds_toArray, List.set_cons_zero, List.set_cons_succ])
          refine wpAnyH_ready (rs := [1, 5]) (by kernel_rfl) (by simp) ?_
          refine AllReadyH.cons rfl (fun K hK => ?_) (AllReadyH.cons rfl (fun K hK => ?_) AllReadyH.nil)
          · skip
            rw [if_pos (by rfl)]
            go_simp
            go_fit (i2 hz2 _ ((HD13.out.on HS0.out).2.2))
            rintro e W89q ⟨⟨h1, hk1, h2, hk2, rfl, hv⟩, hb⟩
            have HM91q := Lib.hid (And.intro (hv.1.mono HS0.out.size) (hv.2.mono HS0.out.size))
            clear hv
            have HS90q := Lib.hid (HS0.out.trans (hb.mono HS0.out.size))
            clear hb
            refine hK.out _ _ HS90q.out (fun hHeld => ?_)
            clear hK K
            (try simp only [Act.put, List.setIfInBounds_toArray, List.set_cons_zero, List.set_cons_succ])
            refine wpAnyH_ready (rs := [3, 5]) (by kernel_rfl) (by simp) ?_
            refine AllReadyH.cons rfl (fun K hK => ?_) (AllReadyH.cons rfl (fun K hK => ?_) AllReadyH.nil)
            · skip
              rw [if_pos (by rfl)]
              go_simp
              go_fit (i9 _)
              rintro e W92q ⟨rfl, hb⟩
              have HS93q := Lib.hid (HS90q.out.trans (hb.mono HS90q.out.size))
              have HM94q := Lib.hid (And.intro (HM91q.out.1.on hb) (HM91q.out.2.on hb))
              clear hb
              refine hK.out _ _ HS93q.out (fun hHeld => ?_)
              clear hK K
              (try simp only [Act.put, List.setIfInBounds_toArray, List.set_cons_zero, List.set_cons_succ])
              refine wpAnyH_ready (rs := [4, 5]) (by kernel_rfl) (by simp) ?_
              refine AllReadyH.cons rfl (fun K hK => ?_) (AllReadyH.cons rfl (fun K hK => ?_) AllReadyH.nil)
              · skip
                rw [if_pos (by rfl)]
                go_simp
                go_fit (i4 h1 h2 hk1 hk2 _ hz2 hz3 hz4 (ms_le hz1 hq0 hq1) (row_ownS HM94q.out.1) (row_ownM HM94q.out.2) (HM.out _ (HD13.out.on HS93q.out).2.2))
                rintro e W95q ⟨⟨v1, vk1, v2, vk2, v3, vk3, rfl, hv⟩, hb⟩
                have HV97q : Hid (RoOwn w13.heap.size W95q R v1 vk1 v2 vk2 v3 vk3) := Lib.hid (RoOwn.mono hv HS93q.out.size)
                clear hv
                have HS96q := Lib.hid (HS93q.out.trans (hb.mono HS93q.out.size))
                clear hb
                refine hK.out _ _ HS96q.out (fun hHeld => ?_)
                clear hK K
                (try simp only [Act.put, List.setIfInBounds_toArray, List.set_cons_zero, List.set_cons_succ])
                refine wpAnyH_ready (rs := [5]) (by kernel_rfl) (by simp) ?_
                refine AllReadyH.cons rfl (fun K hK => ?_) AllReadyH.nil
                rw [if_pos (by rfl)]
                go_simp
                have hb : Below W95q.heap.size W95q (W95q.alloc (.cells #[.slice none 0 0, .slice none 0 0, .slice none 0 0, .string ⟨#[]⟩, .string ⟨#[]⟩, .string ⟨#[]⟩, .string ⟨#[]⟩, .int .i64 0, .string ⟨#[]⟩, .int .i64 0] 37)) := ((Below.refl _ _).alloc (Nat.le_refl _) _)
                have HS99q := Lib.hid (HS96q.out.trans (hb.mono HS96q.out.size))
                have HA100q : Hid (Arr (W95q.alloc (.cells #[.slice none 0 0, .slice none 0 0, .slice none 0 0, .string ⟨#[]⟩, .string ⟨#[]⟩, .string ⟨#[]⟩, .string ⟨#[]⟩, .int .i64 0, .string ⟨#[]⟩, .int .i64 0] 37)) W95q.heap.size 37 [.slice none 0 0, .slice none 0 0, .slice none 0 0, .string ⟨#[]⟩, .string ⟨#[]⟩, .string ⟨#[]⟩, .string ⟨#[]⟩, .int .i64 0, .string ⟨#[]⟩, .int .i64 0]) := Lib.hid (Arr.fresh W95q _ _)
                have HV101q := Lib.hid (HV97q.out.on hb)
                have hq102q : w13.heap.size ≤ W95q.heap.size := HS96q.out.size
                clear hb
                refine hK.out _ _ HS99q.out (fun hHeld => ?_)
                clear hK K
                (try simp only [Act.put, List.setIfInBounds_toArray, List.set_cons_zero, List.set_cons_succ])
                generalize W95q.heap.size = b103q at HA100q hq102q ⊢
                generalize W95q.alloc (.cells #[.slice none 0 0, .slice none 0 0, .slice none 0 0, .string ⟨#[]⟩, .string ⟨#[]⟩, .string ⟨#[]⟩, .string ⟨#[]⟩, .int .i64 0, .string ⟨#[]⟩, .int .i64 0] 37) = W98q at HS99q HA100q HV101q hHeld ⊢
                refine wpAnyH_ready (rs := [6]) (by kernel_rfl) (by simp) ?_
                refine AllReadyH.cons rfl (fun K hK => ?_) AllReadyH.nil
                rw [if_pos (by rfl)]
                obtain ⟨⟨x0, x1, x2, x3, x4, x5, x6, x7, x8, x9⟩, y0, y1, y2, y3, y4, y5, y6, y7, y8, y9⟩ := ten_all HA100q.out
                go_simp
                have hE := arr_put10 HA100q.out (.slice v1 R.l.length vk1) (.slice v2 R.ks.length vk2) (.slice v3 R.to.length vk3) (.string R.bk.k) (.string R.bk.t) (.string R.bk.f) (.string R.bk.o) (.int .i64 R.bk.n) (.string R.bk.b) (.int .i64 R.c)
                have hRf := below_put10 HS99q.out hq102q (.slice v1 R.l.length vk1) (.slice v2 R.ks.length vk2) (.slice v3 R.to.length vk3) (.string R.bk.k) (.string R.bk.t) (.string R.bk.f) (.string R.bk.o) (.int .i64 R.bk.n) (.string R.bk.b) (.int .i64 R.c)
                have hc1 := own_far10 HV101q.out.1 (own_ne10 HV101q.out.1 HA100q.out (by decide)) (.slice v1 R.l.length vk1) (.slice v2 R.ks.length vk2) (.slice v3 R.to.length vk3) (.string R.bk.k) (.string R.bk.t) (.string R.bk.f) (.string R.bk.o) (.int .i64 R.bk.n) (.string R.bk.b) (.int .i64 R.c)
                have hc2 := own_far10 HV101q.out.2.1 (own_ne10 HV101q.out.2.1 HA100q.out (by decide)) (.slice v1 R.l.length vk1) (.slice v2 R.ks.length vk2) (.slice v3 R.to.length vk3) (.string R.bk.k) (.string R.bk.t) (.string R.bk.f) (.string R.bk.o) (.int .i64 R.bk.n) (.string R.bk.b) (.int .i64 R.c)
                have hc3 := own_far10 HV101q.out.2.2 (own_ne10 HV101q.out.2.2 HA100q.out (by decide)) (.slice v1 R.l.length vk1) (.slice v2 R.ks.length vk2) (.slice v3 R.to.length vk3) (.string R.bk.k) (.string R.bk.t) (.string R.bk.f) (.string R.bk.o) (.int .i64 R.bk.n) (.string R.bk.b) (.int .i64 R.c)
                refine hK.out _ _ hRf (fun hHeld => ?_)
                clear hK K
                (try simp only [Act.put, List.setIfInBounds_toArray, List.set_cons_zero, List.set_cons_succ])
                refine wpAnyH_done (by kernel_rfl) ?_ _
                exact ⟨⟨b103q, v1, vk1, v2, vk2, v3, vk3, rfl, hq102q, ⟨hE, hc1, hc2, hc3⟩, hRf⟩, by simp only [putAll, Act.put, List.setIfInBounds_toArray, List.set_cons_zero, List.set_cons_succ]; rfl⟩
              · skip
                rw [if_pos (by rfl)]
                go_simp
                have hb : Below W92q.heap.size W92q (W92q.alloc (.cells #[.slice none 0 0, .slice none 0 0, .slice none 0 0, .string ⟨#[]⟩, .string ⟨#[]⟩, .string ⟨#[]⟩, .string ⟨#[]⟩, .int .i64 0, .string ⟨#[]⟩, .int .i64 0] 37)) := ((Below.refl _ _).alloc (Nat.le_refl _) _)
                have HS105q := Lib.hid (HS93q.out.trans (hb.mono HS93q.out.size))
                have HA106q : Hid (Arr (W92q.alloc (.cells #[.slice none 0 0, .slice none 0 0, .slice none 0 0, .string ⟨#[]⟩, .string ⟨#[]⟩, .string ⟨#[]⟩, .string ⟨#[]⟩, .int .i64 0, .string ⟨#[]⟩, .int .i64 0] 37)) W92q.heap.size 37 [.slice none 0 0, .slice none 0 0, .slice none 0 0, .string ⟨#[]⟩, .string ⟨#[]⟩, .string ⟨#[]⟩, .string ⟨#[]⟩, .int .i64 0, .string ⟨#[]⟩, .int .i64 0]) := Lib.hid (Arr.fresh W92q _ _)
                have HM107q := Lib.hid (And.intro (HM94q.out.1.on hb) (HM94q.out.2.on hb))
                have hq108q : w13.heap.size ≤ W92q.heap.size := HS93q.out.size
                clear hb
                refine hK.out _ _ HS105q.out (fun hHeld => ?_)
                clear hK K
                (try simp only [Act.put, List.setIfInBounds_toArray, List.set_cons_zero, List.set_cons_succ])
                generalize W92q.heap.size = b109q at HA106q hq108q ⊢
                generalize W92q.alloc (.cells #[.slice none 0 0, .slice none 0 0, .slice none 0 0, .string ⟨#[]⟩, .string ⟨#[]⟩, .string ⟨#[]⟩, .string ⟨#[]⟩, .int .i64 0, .string ⟨#[]⟩, .int .i64 0] 37) = W104q at HS105q HA106q HM107q hHeld ⊢
                refine wpAnyH_ready (rs := [4]) (by kernel_rfl) (by simp) ?_
                refine AllReadyH.cons rfl (fun K hK => ?_) AllReadyH.nil
                rw [if_pos (by rfl)]
                go_simp
                go_fit (i4 h1 h2 hk1 hk2 _ hz2 hz3 hz4 (ms_le hz1 hq0 hq1) (row_ownS HM107q.out.1) (row_ownM HM107q.out.2) (HM.out _ (HD13.out.on HS105q.out).2.2))
                rintro e W110q ⟨⟨v1, vk1, v2, vk2, v3, vk3, rfl, hv⟩, hb⟩
                have HV112q : Hid (RoOwn w13.heap.size W110q R v1 vk1 v2 vk2 v3 vk3) := Lib.hid (RoOwn.mono hv HS105q.out.size)
                clear hv
                have HS111q := Lib.hid (HS105q.out.trans (hb.mono HS105q.out.size))
                have HA113q := Lib.hid (arr9_on HA106q.out hb)
                clear hb
                refine hK.out _ _ HS111q.out (fun hHeld => ?_)
                clear hK K
                (try simp only [Act.put, List.setIfInBounds_toArray, List.set_cons_zero, List.set_cons_succ])
                refine wpAnyH_ready (rs := [6]) (by kernel_rfl) (by simp) ?_
                refine AllReadyH.cons rfl (fun K hK => ?_) AllReadyH.nil
                rw [if_pos (by rfl)]
                obtain ⟨⟨x0, x1, x2, x3, x4, x5, x6, x7, x8, x9⟩, y0, y1, y2, y3, y4, y5, y6, y7, y8, y9⟩ := ten_all HA113q.out
                go_simp
                have hE := arr_put10 HA113q.out (.slice v1 R.l.length vk1) (.slice v2 R.ks.length vk2) (.slice v3 R.to.length vk3) (.string R.bk.k) (.string R.bk.t) (.string R.bk.f) (.string R.bk.o) (.int .i64 R.bk.n) (.string R.bk.b) (.int .i64 R.c)
                have hRf := below_put10 HS111q.out hq108q (.slice v1 R.l.length vk1) (.slice v2 R.ks.length vk2) (.slice v3 R.to.length vk3) (.string R.bk.k) (.string R.bk.t) (.string R.bk.f) (.string R.bk.o) (.int .i64 R.bk.n) (.string R.bk.b) (.int .i64 R.c)
                have hc1 := own_far10 HV112q.out.1 (own_ne10 HV112q.out.1 HA113q.out (by decide)) (.slice v1 R.l.length vk1) (.slice v2 R.ks.length vk2) (.slice v3 R.to.length vk3) (.string R.bk.k) (.string R.bk.t) (.string R.bk.f) (.string R.bk.o) (.int .i64 R.bk.n) (.string R.bk.b) (.int .i64 R.c)
                have hc2 := own_far10 HV112q.out.2.1 (own_ne10 HV112q.out.2.1 HA113q.out (by decide)) (.slice v1 R.l.length vk1) (.slice v2 R.ks.length vk2) (.slice v3 R.to.length vk3) (.string R.bk.k) (.string R.bk.t) (.string R.bk.f) (.string R.bk.o) (.int .i64 R.bk.n) (.string R.bk.b) (.int .i64 R.c)
                have hc3 := own_far10 HV112q.out.2.2 (own_ne10 HV112q.out.2.2 HA113q.out (by decide)) (.slice v1 R.l.length vk1) (.slice v2 R.ks.length vk2) (.slice v3 R.to.length vk3) (.string R.bk.k) (.string R.bk.t) (.string R.bk.f) (.string R.bk.o) (.int .i64 R.bk.n) (.string R.bk.b) (.int .i64 R.c)
                refine hK.out _ _ hRf (fun hHeld => ?_)
                clear hK K
                (try simp only [Act.put, List.setIfInBounds_toArray, List.set_cons_zero, List.set_cons_succ])
                refine wpAnyH_done (by kernel_rfl) ?_ _
                exact ⟨⟨b109q, v1, vk1, v2, vk2, v3, vk3, rfl, hq108q, ⟨hE, hc1, hc2, hc3⟩, hRf⟩, by simp only [putAll, Act.put, List.setIfInBounds_toArray, List.set_cons_zero, List.set_cons_succ]; rfl⟩
            · skip
              rw [if_pos (by rfl)]
              go_simp
              have hb : Below W89q.heap.size W89q (W89q.alloc (.cells #[.slice none 0 0, .slice none 0 0, .slice none 0 0, .string ⟨#[]⟩, .string ⟨#[]⟩, .string ⟨#[]⟩, .string ⟨#[]⟩, .int .i64 0, .string ⟨#[]⟩, .int .i64 0] 37)) := ((Below.refl _ _).alloc (Nat.le_refl _) _)
              have HS115q := Lib.hid (HS90q.out.trans (hb.mono HS90q.out.size))
              have HA116q : Hid (Arr (W89q.alloc (.cells #[.slice none 0 0, .slice none 0 0, .slice none 0 0, .string ⟨#[]⟩, .string ⟨#[]⟩, .string ⟨#[]⟩, .string ⟨#[]⟩, .int .i64 0, .string ⟨#[]⟩, .int .i64 0] 37)) W89q.heap.size 37 [.slice none 0 0, .slice none 0 0, .slice none 0 0, .string ⟨#[]⟩, .string ⟨#[]⟩, .string ⟨#[]⟩, .string ⟨#[]⟩, .int .i64 0, .string ⟨#[]⟩, .int .i64 0]) := Lib.hid (Arr.fresh W89q _ _)
              have HM117q := Lib.hid (And.intro (HM91q.out.1.on hb) (HM91q.out.2.on hb))
              have hq118q : w13.heap.size ≤ W89q.heap.size := HS90q.out.size
              clear hb
              refine hK.out _ _ HS115q.out (fun hHeld => ?_)
              clear hK K
              (try simp only [Act.put, List.setIfInBounds_toArray, List.set_cons_zero, List.set_cons_succ])
              generalize W89q.heap.size = b119q at HA116q hq118q ⊢
              generalize W89q.alloc (.cells #[.slice none 0 0, .slice none 0 0, .slice none 0 0, .string ⟨#[]⟩, .string ⟨#[]⟩, .string ⟨#[]⟩, .string ⟨#[]⟩, .int .i64 0, .string ⟨#[]⟩, .int .i64 0] 37) = W114q at HS115q HA116q HM117q hHeld ⊢
              refine wpAnyH_ready (rs := [3]) (by kernel_rfl) (by simp) ?_
              refine AllReadyH.cons rfl (fun K hK => ?_) AllReadyH.nil
              rw [if_pos (by rfl)]
              go_simp
              go_fit (i9 _)
              rintro e W120q ⟨rfl, hb⟩
              have HS121q := Lib.hid (HS115q.out.trans (hb.mono HS115q.out.size))
              have HM122q := Lib.hid (And.intro (HM117q.out.1.on hb) (HM117q.out.2.on hb))
              have HA123q := Lib.hid (arr9_on HA116q.out hb)
              clear hb
              refine hK.out _ _ HS121q.out (fun hHeld => ?_)
              clear hK K
              (try simp only [Act.put, List.setIfInBounds_toArray, List.set_cons_zero, List.set_cons_succ])
              refine wpAnyH_ready (rs := [4]) (by kernel_rfl) (by simp) ?_
              refine AllReadyH.cons rfl (fun K hK => ?_) AllReadyH.nil
              rw [if_pos (by rfl)]
              go_simp
              go_fit (i4 h1 h2 hk1 hk2 _ hz2 hz3 hz4 (ms_le hz1 hq0 hq1) (row_ownS HM122q.out.1) (row_ownM HM122q.out.2) (HM.out _ (HD13.out.on HS121q.out).2.2))
              rintro e W124q ⟨⟨v1, vk1, v2, vk2, v3, vk3, rfl, hv⟩, hb⟩
              have HV126q : Hid (RoOwn w13.heap.size W124q R v1 vk1 v2 vk2 v3 vk3) := Lib.hid (RoOwn.mono hv HS121q.out.size)
              clear hv
              have HS125q := Lib.hid (HS121q.out.trans (hb.mono HS121q.out.size))
              have HA127q := Lib.hid (arr9_on HA123q.out hb)
              clear hb
              refine hK.out _ _ HS125q.out (fun hHeld => ?_)
              clear hK K
              (try simp only [Act.put, List.setIfInBounds_toArray, List.set_cons_zero, List.set_cons_succ])
              refine wpAnyH_ready (rs := [6]) (by kernel_rfl) (by simp) ?_
              refine AllReadyH.cons rfl (fun K hK => ?_) AllReadyH.nil
              rw [if_pos (by rfl)]
              obtain ⟨⟨x0, x1, x2, x3, x4, x5, x6, x7, x8, x9⟩, y0, y1, y2, y3, y4, y5, y6, y7, y8, y9⟩ := ten_all HA127q.out
              go_simp
              have hE := arr_put10 HA127q.out (.slice v1 R.l.length vk1) (.slice v2 R.ks.length vk2) (.slice v3 R.to.length vk3) (.string R.bk.k) (.string R.bk.t) (.string R.bk.f) (.string R.bk.o) (.int .i64 R.bk.n) (.string R.bk.b) (.int .i64 R.c)
              have hRf := below_put10 HS125q.out hq118q (.slice v1 R.l.length vk1) (.slice v2 R.ks.length vk2) (.slice v3 R.to.length vk3) (.string R.bk.k) (.string R.bk.t) (.string R.bk.f) (.string R.bk.o) (.int .i64 R.bk.n) (.string R.bk.b) (.int .i64 R.c)
              have hc1 := own_far10 HV126q.out.1 (own_ne10 HV126q.out.1 HA127q.out (by decide)) (.slice v1 R.l.length vk1) (.slice v2 R.ks.length vk2) (.slice v3 R.to.length vk3) (.string R.bk.k) (.string R.bk.t) (.string R.bk.f) (.string R.bk.o) (.int .i64 R.bk.n) (.string R.bk.b) (.int .i64 R.c)
              have hc2 := own_far10 HV126q.out.2.1 (own_ne10 HV126q.out.2.1 HA127q.out (by decide)) (.slice v1 R.l.length vk1) (.slice v2 R.ks.length vk2) (.slice v3 R.to.length vk3) (.string R.bk.k) (.string R.bk.t) (.string R.bk.f) (.string R.bk.o) (.int .i64 R.bk.n) (.string R.bk.b) (.int .i64 R.c)
              have hc3 := own_far10 HV126q.out.2.2 (own_ne10 HV126q.out.2.2 HA127q.out (by decide)) (.slice v1 R.l.length vk1) (.slice v2 R.ks.length vk2) (.slice v3 R.to.length vk3) (.string R.bk.k) (.string R.bk.t) (.string R.bk.f) (.string R.bk.o) (.int .i64 R.bk.n) (.string R.bk.b) (.int .i64 R.c)
              refine hK.out _ _ hRf (fun hHeld => ?_)
              clear hK K
              (try simp only [Act.put, List.setIfInBounds_toArray, List.set_cons_zero, List.set_cons_succ])
              refine wpAnyH_done (by kernel_rfl) ?_ _
              exact ⟨⟨b119q, v1, vk1, v2, vk2, v3, vk3, rfl, hq118q, ⟨hE, hc1, hc2, hc3⟩, hRf⟩, by simp only [putAll, Act.put, List.setIfInBounds_toArray, List.set_cons_zero, List.set_cons_succ]; rfl⟩
          · skip
            rw [if_pos (by rfl)]
            go_simp
            have hb : Below wd.heap.size wd (wd.alloc (.cells #[.slice none 0 0, .slice none 0 0, .slice none 0 0, .string ⟨#[]⟩, .string ⟨#[]⟩, .string ⟨#[]⟩, .string ⟨#[]⟩, .int .i64 0, .string ⟨#[]⟩, .int .i64 0] 37)) := ((Below.refl _ _).alloc (Nat.le_refl _) _)
            have HS129q := Lib.hid (HS0.out.trans (hb.mono HS0.out.size))
            have HA130q : Hid (Arr (wd.alloc (.cells #[.slice none 0 0, .slice none 0 0, .slice none 0 0, .string ⟨#[]⟩, .string ⟨#[]⟩, .string ⟨#[]⟩, .string ⟨#[]⟩, .int .i64 0, .string ⟨#[]⟩, .int .i64 0] 37)) wd.heap.size 37 [.slice none 0 0, .slice none 0 0, .slice none 0 0, .string ⟨#[]⟩, .string ⟨#[]⟩, .string ⟨#[]⟩, .string ⟨#[]⟩, .int .i64 0, .string ⟨#[]⟩, .int .i64 0]) := Lib.hid (Arr.fresh wd _ _)
            have hq131q : w13.heap.size ≤ wd.heap.size := HS0.out.size
            clear hb
            refine hK.out _ _ HS129q.out (fun hHeld => ?_)
            clear hK K
            (try simp only [Act.put, List.setIfInBounds_toArray, List.set_cons_zero, List.set_cons_succ])
            generalize wd.heap.size = b132q at HA130q hq131q ⊢
            generalize wd.alloc (.cells #[.slice none 0 0, .slice none 0 0, .slice none 0 0, .string ⟨#[]⟩, .string ⟨#[]⟩, .string ⟨#[]⟩, .string ⟨#[]⟩, .int .i64 0, .string ⟨#[]⟩, .int .i64 0] 37) = W128q at HS129q HA130q hHeld ⊢
            refine wpAnyH_ready (rs := [1]) (by kernel_rfl) (by simp) ?_
            refine AllReadyH.cons rfl (fun K hK => ?_) AllReadyH.nil
            rw [if_pos (by rfl)]
            go_simp
            go_fit (i2 hz2 _ ((HD13.out.on HS129q.out).2.2))
            rintro e W133q ⟨⟨h1, hk1, h2, hk2, rfl, hv⟩, hb⟩
            have HM135q := Lib.hid (And.intro (hv.1.mono HS129q.out.size) (hv.2.mono HS129q.out.size))
            clear hv
            have HS134q := Lib.hid (HS129q.out.trans (hb.mono HS129q.out.size))
            have HA136q := Lib.hid (arr9_on HA130q.out hb)
            clear hb
            refine hK.out _ _ HS134q.out (fun hHeld => ?_)
            clear hK K
            (try simp only [Act.put, List.setIfInBounds_toArray, List.set_cons_zero, List.set_cons_succ])
            refine wpAnyH_ready (rs := [3]) (by kernel_rfl) (by simp) ?_
            refine AllReadyH.cons rfl (fun K hK => ?_) AllReadyH.nil
            rw [if_pos (by rfl)]
            go_simp
            go_fit (i9 _)
            rintro e W137q ⟨rfl, hb⟩
            have HS138q := Lib.hid (HS134q.out.trans (hb.mono HS134q.out.size))
            have HM139q := Lib.hid (And.intro (HM135q.out.1.on hb) (HM135q.out.2.on hb))
            have HA140q := Lib.hid (arr9_on HA136q.out hb)
            clear hb
            refine hK.out _ _ HS138q.out (fun hHeld => ?_)
            clear hK K
            (try simp only [Act.put, List.setIfInBounds_toArray, List.set_cons_zero, List.set_cons_succ])
            refine wpAnyH_ready (rs := [4]) (by kernel_rfl) (by simp) ?_
            refine AllReadyH.cons rfl (fun K hK => ?_) AllReadyH.nil
            rw [if_pos (by rfl)]
            go_simp
            go_fit (i4 h1 h2 hk1 hk2 _ hz2 hz3 hz4 (ms_le hz1 hq0 hq1) (row_ownS HM139q.out.1) (row_ownM HM139q.out.2) (HM.out _ (HD13.out.on HS138q.out).2.2))
            rintro e W141q ⟨⟨v1, vk1, v2, vk2, v3, vk3, rfl, hv⟩, hb⟩
            have HV143q : Hid (RoOwn w13.heap.size W141q R v1 vk1 v2 vk2 v3 vk3) := Lib.hid (RoOwn.mono hv HS138q.out.size)
            clear hv
            have HS142q := Lib.hid (HS138q.out.trans (hb.mono HS138q.out.size))
            have HA144q := Lib.hid (arr9_on HA140q.out hb)
            clear hb
            refine hK.out _ _ HS142q.out (fun hHeld => ?_)
            clear hK K
            (try simp only [Act.put, List.setIfInBounds_toArray, List.set_cons_zero, List.set_cons_succ])
            refine wpAnyH_ready (rs := [6]) (by kernel_rfl) (by simp) ?_
            refine AllReadyH.cons rfl (fun K hK => ?_) AllReadyH.nil
            rw [if_pos (by rfl)]
            obtain ⟨⟨x0, x1, x2, x3, x4, x5, x6, x7, x8, x9⟩, y0, y1, y2, y3, y4, y5, y6, y7, y8, y9⟩ := ten_all HA144q.out
            go_simp
            have hE := arr_put10 HA144q.out (.slice v1 R.l.length vk1) (.slice v2 R.ks.length vk2) (.slice v3 R.to.length vk3) (.string R.bk.k) (.string R.bk.t) (.string R.bk.f) (.string R.bk.o) (.int .i64 R.bk.n) (.string R.bk.b) (.int .i64 R.c)
            have hRf := below_put10 HS142q.out hq131q (.slice v1 R.l.length vk1) (.slice v2 R.ks.length vk2) (.slice v3 R.to.length vk3) (.string R.bk.k) (.string R.bk.t) (.string R.bk.f) (.string R.bk.o) (.int .i64 R.bk.n) (.string R.bk.b) (.int .i64 R.c)
            have hc1 := own_far10 HV143q.out.1 (own_ne10 HV143q.out.1 HA144q.out (by decide)) (.slice v1 R.l.length vk1) (.slice v2 R.ks.length vk2) (.slice v3 R.to.length vk3) (.string R.bk.k) (.string R.bk.t) (.string R.bk.f) (.string R.bk.o) (.int .i64 R.bk.n) (.string R.bk.b) (.int .i64 R.c)
            have hc2 := own_far10 HV143q.out.2.1 (own_ne10 HV143q.out.2.1 HA144q.out (by decide)) (.slice v1 R.l.length vk1) (.slice v2 R.ks.length vk2) (.slice v3 R.to.length vk3) (.string R.bk.k) (.string R.bk.t) (.string R.bk.f) (.string R.bk.o) (.int .i64 R.bk.n) (.string R.bk.b) (.int .i64 R.c)
            have hc3 := own_far10 HV143q.out.2.2 (own_ne10 HV143q.out.2.2 HA144q.out (by decide)) (.slice v1 R.l.length vk1) (.slice v2 R.ks.length vk2) (.slice v3 R.to.length vk3) (.string R.bk.k) (.string R.bk.t) (.string R.bk.f) (.string R.bk.o) (.int .i64 R.bk.n) (.string R.bk.b) (.int .i64 R.c)
            refine hK.out _ _ hRf (fun hHeld => ?_)
            clear hK K
            (try simp only [Act.put, List.setIfInBounds_toArray, List.set_cons_zero, List.set_cons_succ])
            refine wpAnyH_done (by kernel_rfl) ?_ _
            exact ⟨⟨b132q, v1, vk1, v2, vk2, v3, vk3, rfl, hq131q, ⟨hE, hc1, hc2, hc3⟩, hRf⟩, by simp only [putAll, Act.put, List.setIfInBounds_toArray, List.set_cons_zero, List.set_cons_succ]; rfl⟩
        · rintro vs w14 ⟨b14, v1, vk1, v2, vk2, v3, vk3, eb14, hB14, hO, hS⟩
          have HD14 := Lib.hid (HD13.out.on hS)
          have H614 := Lib.hid (H613.out.on hS)
          have H814 := Lib.hid (H813.out.on hS)
          have H914 := Lib.hid hO
          simp only [putAll, Act.put, List.setIfInBounds_toArray, List.set_cons_zero, List.set_cons_succ, eb14]
          clear eb14 hO hS
          obtain ⟨⟨c0, c1⟩, _⟩ := arr9_two HD14.out.1; have hzA := arr9_lt HD14.out.1; obtain ⟨⟨d0, d1, d2, d3, d4, d5⟩, _⟩ := arr_six0 HD14.out.2.1; have hzB := arr9_lt HD14.out.2.1; obtain ⟨⟨a0, a1, a2, a3, a4, a5, a6, a7, a8, a9⟩, az⟩ := arr_ten (H614.out.1); obtain ⟨⟨e0, e1, e2, e3, e4, e5, e6, e7, e8, e9⟩, ez⟩ := arr_ten (H814.out.1); obtain ⟨⟨x0, x1, x2, x3, x4, x5, x6, x7, x8, x9⟩, xz⟩ := arr_ten (H914.out.1)
          go_wp2_with (first
            | (go_at_call 16; have _ := HD15; go_fit (j3 g1 g2 g3 gk1 gk2 gk3 _ _ H815.out.2); rintro e w16 ⟨rfl, hb⟩; have HD16 := Lib.hid (HD15.out.on hb); clear hb)
            | (go_at_call 12; have _ := HD14; go_fit (j1 v1 v2 v3 p1 p2 p3 vk1 vk2 vk3 pk1 pk2 pk3 _ _ _ H914.out.2 H614.out.2); rintro e w15 ⟨rfl, hb⟩; have HD15 := Lib.hid (HD14.out.on hb); have H815 := Lib.hid (H814.out.on hb); clear hb; obtain ⟨⟨e0, e1, e2, e3, e4, e5, e6, e7, e8, e9⟩, ez⟩ := arr_ten (H815.out.1)))
          go_ret
          exact ⟨rfl, HD16.out.2.2⟩
end Go.Proofs.YtpjmcpfmnlfmdaaGreat
