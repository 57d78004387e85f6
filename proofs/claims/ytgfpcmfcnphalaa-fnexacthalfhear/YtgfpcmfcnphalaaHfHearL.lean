/- FnExactHalfHear's walk. -/
import Derived.Test.YtgfpcmfcnphalaaHfOutL
import Derived.Test.YtgfpcmfcnphalaaHfHearI
import Derived.Test.YtgfpcmfcnphalaaSmJoin
namespace Go.Proofs.Ytgfpcmfcnphalaa
set_option linter.unusedSimpArgs false
set_option linter.unusedVariables false
open Go.RowKit Go.Joins

theorem Bx.row_far {w W : World} {l : List (Nat × List Value)} (h : Bx w W l) {b : Nat} (hb : w.heap.size + l.length ≤ b) (cs : Array Value) : Bx w (W.setRow b cs) l :=
  ⟨below_setRow h.1 (by omega) _, fun k hk => (setRow_other W b _ cs (by omega)).trans (h.2 k hk)⟩
theorem reg_fin {V W : World} {B g : Nat} {R : HoL} {p : Option Addr} {k : Nat} {z : List Value} (hv : OwnC sbC W B 32 2 (.slice p R.s.length k) R.s) (hz : Arr W g 29 z) (hB : V.heap.size ≤ B) (hg : V.heap.size ≤ g) (hb : Below V.heap.size V W) :
    OutH g V.heap.size (W.setRow g (hoC R.h p R.s.length k R.c).toArray) R p k ∧ Below V.heap.size V (W.setRow g (hoC R.h p R.s.length k R.c).toArray) := by
  refine ⟨⟨setRow_heap W g _ _ _ _ hz, OwnC.mono ?_ hB⟩, below_setRow hb hg _⟩
  have hne := own_neH hv hz
  refine ⟨hv.1, ?_⟩
  rcases hv.2 with h0 | ⟨g2, cap, cur, h1, h2, h3, h4⟩
  · exact .inl h0
  · exact .inr ⟨g2, cap, cur, h1, h2, (setRow_other W g g2 _ (fun e => hne g2 (by rw [h1]; rfl) e.symm)).trans h3, h4⟩
set_option maxHeartbeats 400000 in
theorem to_sub (x : SbL) (w : World) : Calls Try.prog 34 #[sbL x] w fun e w' => e = .returned (sbL x) ∧ Below w.heap.size w w' := by
  go_enter Try.func34, Try.ntmps34
  go_wp2
  exact bodyPost_ret (v := sbL x) (by simp [results, Try.results34, go_sem]) rfl ⟨rfl, (((Below.refl _ _).alloc (Nat.le_refl _) _).alloc (by simp) _).alloc (by simp; omega) _⟩
theorem hearR_len (h : HfL) (x : SbL) : (hearR h x).s.length = 0 := by
  unfold hearR illH
  split <;> rfl
theorem Bx.markH {w W W2 : World} {l : List (Nat × List Value)} {B : Nat} {v : Value} (h : Bx w W l) (hF : MFrame B v W W2) (hB : w.heap.size + l.length ≤ B) : Bx w W2 l :=
  ⟨h.1.trans (hF.1.mono (by omega)), fun k hk => arr_keep (h.2 k hk) hF.1 (by omega)⟩
set_option maxRecDepth 100000 in
set_option maxHeartbeats 4000000 in
theorem hfhearl_law (h : HfL) (x : SbL) (w : World) :
    Calls Try.prog 8 #[hfL h, sbL x] w fun e w' => e = .returned (.bool true) ∧ Below w.heap.size w w' := by
  obtain ⟨R, hR⟩ : ∃ R, hearR h x = R := ⟨_, rfl⟩
  have hRL : R.s.length ≤ 1000000 := by
    rw [← hR, hearR_len]
    exact Nat.zero_le _
  have i2 := fun W => to_half h W
  have i2s := fun W => to_sub x W
  have i3 := fun W => spec_hear h x W
  have i4 := fun W => impl_hear h x W
  rw [hR] at i3 i4
  unfold HoIs at i3 i4
  have j1 := fun p q k l W hp hq => eq_outH R p q k l W (by omega) hp hq
  have j2 := fun p k B W hB h => mark_outH R p k B W hRL hB h
  have j3 := fun p k B W h => held_outH R p k B W hRL h
  have hpos : ¬ ((1 : Int) + R.s.length * 2 < 0) := by omega
  clear hR hRL
  have HB0 := Lib.hid (bx2 w 45 50 (hfC h) [.int .i64 x.k, .int .i64 x.n])
  go_enter Try.func8, Try.ntmps8
  go_wp2_with fail
  have HB0' : Hid (Bx w ((w.alloc (.cells #[.int .i64 h.n, .int .i64 h.o, .int .i64 h.t, .int .i64 h.i, .int .i64 h.f] 45)).alloc (.cells #[.int .i64 x.k, .int .i64 x.n] 50)) [(45, hfC h), (50, [.int .i64 x.k, .int .i64 x.n])]) := HB0
  clear HB0
  generalize ((w.alloc (.cells #[.int .i64 h.n, .int .i64 h.o, .int .i64 h.t, .int .i64 h.i, .int .i64 h.f] 45)).alloc (.cells #[.int .i64 x.k, .int .i64 x.n] 50)) = V1 at HB0' ⊢
  refine region_join [10, 11, 12, 13, 14, 5] (fun vs W => ∃ g p k, vs 5 = .pointer (some ⟨g, 0, none⟩) ∧ Below V1.heap.size V1 W ∧ OutH g V1.heap.size W R p k) ?_ ?_
  rotate_left
  · rintro vs V2 ⟨g5, p5, k5, hv, hb, ho⟩
    have HB1 := Lib.hid (HB0'.out.on hb)
    have H51 := Lib.hid ho
    have hg5 := arr_ltH ho.1
    clear hb ho HB0'
    simp only [putAll, Act.put, List.setIfInBounds_toArray, List.set_cons_zero, List.set_cons_succ]
    rw [hv]
    clear hv
    go_wp2_with fail
    refine region_join [15, 16, 17, 18, 19, 6] (fun vs W => ∃ g p k, vs 6 = .pointer (some ⟨g, 0, none⟩) ∧ Below V2.heap.size V2 W ∧ OutH g V2.heap.size W R p k) ?_ ?_
    rotate_left
    · rintro vs V3 ⟨g6, p6, k6, hv, hb, ho⟩
      have HB2 := Lib.hid (HB1.out.on hb)
      have H52 := Lib.hid (H51.out.on hb)
      have H62 := Lib.hid ho
      have hg6 := arr_ltH ho.1
      have hVV : V2.heap.size ≤ V3.heap.size := hb.size
      have HR5 := Lib.hid (fun g hg => (own_ltH H51.out.2 g hg).2)
      clear hb ho
      simp only [putAll, Act.put, List.setIfInBounds_toArray, List.set_cons_zero, List.set_cons_succ]
      rw [hv]
      clear hv
      obtain ⟨a0, a1, a2, a3, a4, a5, a6⟩ := ho_cells H52.out.1
      have hg52 := arr_ltH H52.out.1
      obtain ⟨e0, e1, e2, e3, e4, e5, e6⟩ := ho_cells H62.out.1
      have hlw := arr_ltH (HB2.out.2 1 (show 1 < 2 by decide))
      have hlw1 := arr_ltH (HB1.out.2 1 (show 1 < 2 by decide))
      replace hlw : w.heap.size + 1 < V3.heap.size := hlw
      replace hlw1 : w.heap.size + 1 < V2.heap.size := hlw1
      go_wp2_with (first
        | (go_at_call 33; have _ := HB4; go_fit (j3 p6 k6 V2.heap.size _ H64.out.2); rintro e V6 ⟨rfl, hb⟩; have HB5 := Lib.hid (HB4.out.on hb); have H55 := Lib.hid (H54.out.on hb); have H65 := Lib.hid (And.intro (arr_belowH H64.out.1 hb) (H64.out.2.on hb)); clear hb)
        | (go_at_call 32; have _ := HB3; go_fit (j2 p6 k6 V2.heap.size _ (by have := HZ3.out; omega) H63.out.2); rintro e V5 ⟨rfl, hM, hF⟩; have HB4 := Lib.hid (HB3.out.markH hF (by show w.heap.size + 2 ≤ V2.heap.size; omega)); have H54 := Lib.hid (H53.out.low hF (by omega) HR5.out); have H64 := Lib.hid (And.intro (hF.arr H63.out.1 (own_neH H63.out.2 H63.out.1)) hM); clear hM hF e0 e1 e2 e3 e4 e5 e6; obtain ⟨e0, e1, e2, e3, e4, e5, e6⟩ := ho_cells H64.out.1)
        | (go_at_call 31; go_fit (j1 p6 p5 k6 k5 _ (row_ownH H62.out.2) (row_ownH H52.out.2)); rintro e V4 ⟨rfl, hb⟩; have HB3 := Lib.hid (HB2.out.on hb); have H53 := Lib.hid (H52.out.on hb); have H63 := Lib.hid (H62.out.on hb); have HZ3 : Hid (V3.heap.size ≤ V4.heap.size) := Lib.hid hb.size; clear hb a0 a1 a2 a3 a4 a5 a6 e0 e1 e2 e3 e4 e5 e6; obtain ⟨e0, e1, e2, e3, e4, e5, e6⟩ := ho_cells H63.out.1))
      refine region_join [35, 36, 37, 38, 39, 9] (fun vs W => ∃ g p k, vs 9 = .pointer (some ⟨g, 0, none⟩) ∧ Below V6.heap.size V6 W ∧ OutH g V6.heap.size W R p k) ?_ ?_
      rotate_left
      · rintro vs V7 ⟨g9, p9, k9, hv, hb, ho⟩
        have HB6 := Lib.hid (HB5.out.on hb)
        have H56 := Lib.hid (H55.out.on hb)
        have H66 := Lib.hid (And.intro (arr_belowH H65.out.1 hb) (H65.out.2.on hb))
        have H96 := Lib.hid ho
        clear hb ho
        simp only [putAll, Act.put, List.setIfInBounds_toArray, List.set_cons_zero, List.set_cons_succ]
        rw [hv]
        clear hv e0 e1 e2 e3 e4 e5 e6
        obtain ⟨a0, a1, a2, a3, a4, a5, a6⟩ := ho_cells H56.out.1
        obtain ⟨b0, b1, b2, b3, b4, b5, b6⟩ := ho_cells H96.out.1
        go_wp2_with (first
          | (go_at_call 33; have _ := HB7; go_fit (j3 p6 k6 V2.heap.size _ H67.out.2); rintro e V9 ⟨rfl, hb⟩; have HB8 := Lib.hid (HB7.out.on hb); clear hb)
          | (go_at_call 31; go_fit (j1 p9 p5 k9 k5 _ (row_ownH H96.out.2) (row_ownH H56.out.2)); rintro e V8 ⟨rfl, hb⟩; have HB7 := Lib.hid (HB6.out.on hb); have H67 := Lib.hid (And.intro (arr_belowH H66.out.1 hb) (H66.out.2.on hb)); clear hb; obtain ⟨e0, e1, e2, e3, e4, e5, e6⟩ := ho_cells H67.out.1))
        go_ret
        exact ⟨rfl, HB8.out.1⟩
      have hbT : Below V6.heap.size V6 V6.drew := (Below.refl _ _).drew
      refine wp_region_held_drew (S := fun W => Bx w W [(45, hfC h), (50, [.int .i64 x.k, .int .i64 x.n])]) (by kernel_rfl) (HB5.out.drew) (fun hHeld => ?_)
      generalize V6.drew = Wd at hHeld hbT ⊢
      refine takeQ (i := 0) (k := 35) (v := hfL h) rfl (by rfl) (by kernel_rfl) (by kernel_rfl) (by kernel_rfl) (fun _ _ _ h => h) (by rfl) ?_ hHeld ?_
      · intro w1 hSw; obtain ⟨⟨m0, m1, m2, m3, m4⟩, _⟩ := hf_cells (b := w.heap.size) (h := h) (hSw.2 0 (show 0 < 2 by decide)); go_simp
      (try simp only [Act.put, List.setIfInBounds_toArray, List.set_cons_zero, List.set_cons_succ])
      refine takeQ (i := 2) (k := 37) (v := sbL x) rfl (by rfl) (by kernel_rfl) (by kernel_rfl) (by kernel_rfl) (fun _ _ _ h => h) (by rfl) ?_ hHeld ?_
      · intro w1 hSw; obtain ⟨m0, m1⟩ := sb_cells (b := w.heap.size + 1) (hSw.2 1 (show 1 < 2 by decide)); go_simp
      (try simp only [Act.put, List.setIfInBounds_toArray, List.set_cons_zero, List.set_cons_succ])
      refine wpAnyH_ready (rs := [1, 5]) (by kernel_rfl) (by simp) ?_
      refine AllReadyH.cons rfl (fun K hK => ?_) (AllReadyH.cons rfl (fun K hK => ?_) AllReadyH.nil)
      · rw [if_pos (by rfl)]
        go_simp
        go_fit (i2 _)
        rintro e v1 ⟨rfl, hbN⟩
        replace hbT := hbT.trans (hbN.mono hbT.size)
        refine hK.out _ _ (hHeld.on hbN) (fun hHeld => ?_)
        clear hK K
        (try simp only [Act.put, List.setIfInBounds_toArray, List.set_cons_zero, List.set_cons_succ])
        refine wpAnyH_ready (rs := [3, 5]) (by kernel_rfl) (by simp) ?_
        refine AllReadyH.cons rfl (fun K hK => ?_) (AllReadyH.cons rfl (fun K hK => ?_) AllReadyH.nil)
        · rw [if_pos (by rfl)]
          go_simp
          go_fit (i2s _)
          rintro e v2 ⟨rfl, hbN⟩
          replace hbT := hbT.trans (hbN.mono hbT.size)
          refine hK.out _ _ (hHeld.on hbN) (fun hHeld => ?_)
          clear hK K
          (try simp only [Act.put, List.setIfInBounds_toArray, List.set_cons_zero, List.set_cons_succ])
          refine wpAnyH_ready (rs := [4, 5]) (by kernel_rfl) (by simp) ?_
          refine AllReadyH.cons rfl (fun K hK => ?_) (AllReadyH.cons rfl (fun K hK => ?_) AllReadyH.nil)
          · rw [if_pos (by rfl)]
            go_simp
            go_fit (i4 _)
            rintro e v3 ⟨⟨p, k, rfl, hv⟩, hbN⟩
            have hBv := hbT.size
            replace hbT := hbT.trans (hbN.mono hbT.size)
            refine hK.out _ _ (hHeld.on hbN) (fun hHeld => ?_)
            clear hK K
            (try simp only [Act.put, List.setIfInBounds_toArray, List.set_cons_zero, List.set_cons_succ])
            refine wpAnyH_ready (rs := [5]) (by kernel_rfl) (by simp) ?_
            refine AllReadyH.cons rfl (fun K hK => ?_) AllReadyH.nil
            rw [if_pos (by rfl)]
            go_simp
            have hz := Arr.fresh v3 29 hoZ
            have hgz : V6.heap.size ≤ v3.heap.size := hbT.size
            replace hbT := hbT.alloc hbT.size (.cells #[.int .i64 0, .int .i64 0, .int .i64 0, .int .i64 0, .int .i64 0, .slice none 0 0, .int .i64 0] 29)
            replace hv := hv.alloc (.cells #[.int .i64 0, .int .i64 0, .int .i64 0, .int .i64 0, .int .i64 0, .slice none 0 0, .int .i64 0] 29)
            refine hK.out _ _ (hHeld.on ((Below.refl _ v3).alloc (Nat.le_refl _) (.cells #[.int .i64 0, .int .i64 0, .int .i64 0, .int .i64 0, .int .i64 0, .slice none 0 0, .int .i64 0] 29))) (fun hHeld => ?_)
            clear hK K
            (try simp only [Act.put, List.setIfInBounds_toArray, List.set_cons_zero, List.set_cons_succ])
            refine wpAnyH_ready (rs := [6]) (by kernel_rfl) (by simp) ?_
            refine AllReadyH.cons rfl (fun K hK => ?_) AllReadyH.nil
            rw [if_pos (by rfl)]
            refine wp_store_row 29 _ _ rfl v3.heap.size _ rfl rfl 29 _ hz (by kernel_rfl) (by rfl) (by kernel_rfl) ?_
            have hF := reg_fin hv hz hBv hgz hbT
            refine hK.out _ _ (hHeld.row_far (by have := hbT.size; have := arr_ltH (HB5.out.2 1 (show 1 < 2 by decide)); show w.heap.size + 2 ≤ v3.heap.size; omega) _) (fun hHeld => ?_)
            clear hK K
            (try simp only [Act.put, List.setIfInBounds_toArray, List.set_cons_zero, List.set_cons_succ])
            refine wpAnyH_done (by kernel_rfl) ?_ _
            exact ⟨⟨_, p, k, rfl, hF.2, hF.1⟩, by simp only [putAll, Act.put, List.setIfInBounds_toArray, List.set_cons_zero, List.set_cons_succ]; rfl⟩
          · rw [if_pos (by rfl)]
            go_simp
            have hz := Arr.fresh v2 29 hoZ
            have hgz : V6.heap.size ≤ v2.heap.size := hbT.size
            replace hbT := hbT.alloc hbT.size (.cells #[.int .i64 0, .int .i64 0, .int .i64 0, .int .i64 0, .int .i64 0, .slice none 0 0, .int .i64 0] 29)
            refine hK.out _ _ (hHeld.on ((Below.refl _ v2).alloc (Nat.le_refl _) (.cells #[.int .i64 0, .int .i64 0, .int .i64 0, .int .i64 0, .int .i64 0, .slice none 0 0, .int .i64 0] 29))) (fun hHeld => ?_)
            clear hK K
            (try simp only [Act.put, List.setIfInBounds_toArray, List.set_cons_zero, List.set_cons_succ])
            refine wpAnyH_ready (rs := [4]) (by kernel_rfl) (by simp) ?_
            refine AllReadyH.cons rfl (fun K hK => ?_) AllReadyH.nil
            rw [if_pos (by rfl)]
            go_simp
            go_fit (i4 _)
            rintro e v4 ⟨⟨p, k, rfl, hv⟩, hbN⟩
            have hBv := hbT.size
            replace hbT := hbT.trans (hbN.mono hbT.size)
            replace hz := arr_belowH hz hbN
            refine hK.out _ _ (hHeld.on hbN) (fun hHeld => ?_)
            clear hK K
            (try simp only [Act.put, List.setIfInBounds_toArray, List.set_cons_zero, List.set_cons_succ])
            refine wpAnyH_ready (rs := [6]) (by kernel_rfl) (by simp) ?_
            refine AllReadyH.cons rfl (fun K hK => ?_) AllReadyH.nil
            rw [if_pos (by rfl)]
            refine wp_store_row 29 _ _ rfl v2.heap.size _ rfl rfl 29 _ hz (by kernel_rfl) (by rfl) (by kernel_rfl) ?_
            have hF := reg_fin hv hz hBv hgz hbT
            refine hK.out _ _ (hHeld.row_far (by have := hbT.size; have := arr_ltH (HB5.out.2 1 (show 1 < 2 by decide)); show w.heap.size + 2 ≤ v2.heap.size; omega) _) (fun hHeld => ?_)
            clear hK K
            (try simp only [Act.put, List.setIfInBounds_toArray, List.set_cons_zero, List.set_cons_succ])
            refine wpAnyH_done (by kernel_rfl) ?_ _
            exact ⟨⟨_, p, k, rfl, hF.2, hF.1⟩, by simp only [putAll, Act.put, List.setIfInBounds_toArray, List.set_cons_zero, List.set_cons_succ]; rfl⟩
        · rw [if_pos (by rfl)]
          go_simp
          have hz := Arr.fresh v1 29 hoZ
          have hgz : V6.heap.size ≤ v1.heap.size := hbT.size
          replace hbT := hbT.alloc hbT.size (.cells #[.int .i64 0, .int .i64 0, .int .i64 0, .int .i64 0, .int .i64 0, .slice none 0 0, .int .i64 0] 29)
          refine hK.out _ _ (hHeld.on ((Below.refl _ v1).alloc (Nat.le_refl _) (.cells #[.int .i64 0, .int .i64 0, .int .i64 0, .int .i64 0, .int .i64 0, .slice none 0 0, .int .i64 0] 29))) (fun hHeld => ?_)
          clear hK K
          (try simp only [Act.put, List.setIfInBounds_toArray, List.set_cons_zero, List.set_cons_succ])
          refine wpAnyH_ready (rs := [3]) (by kernel_rfl) (by simp) ?_
          refine AllReadyH.cons rfl (fun K hK => ?_) AllReadyH.nil
          rw [if_pos (by rfl)]
          go_simp
          go_fit (i2s _)
          rintro e v5 ⟨rfl, hbN⟩
          replace hbT := hbT.trans (hbN.mono hbT.size)
          replace hz := arr_belowH hz hbN
          refine hK.out _ _ (hHeld.on hbN) (fun hHeld => ?_)
          clear hK K
          (try simp only [Act.put, List.setIfInBounds_toArray, List.set_cons_zero, List.set_cons_succ])
          refine wpAnyH_ready (rs := [4]) (by kernel_rfl) (by simp) ?_
          refine AllReadyH.cons rfl (fun K hK => ?_) AllReadyH.nil
          rw [if_pos (by rfl)]
          go_simp
          go_fit (i4 _)
          rintro e v6 ⟨⟨p, k, rfl, hv⟩, hbN⟩
          have hBv := hbT.size
          replace hbT := hbT.trans (hbN.mono hbT.size)
          replace hz := arr_belowH hz hbN
          refine hK.out _ _ (hHeld.on hbN) (fun hHeld => ?_)
          clear hK K
          (try simp only [Act.put, List.setIfInBounds_toArray, List.set_cons_zero, List.set_cons_succ])
          refine wpAnyH_ready (rs := [6]) (by kernel_rfl) (by simp) ?_
          refine AllReadyH.cons rfl (fun K hK => ?_) AllReadyH.nil
          rw [if_pos (by rfl)]
          refine wp_store_row 29 _ _ rfl v1.heap.size _ rfl rfl 29 _ hz (by kernel_rfl) (by rfl) (by kernel_rfl) ?_
          have hF := reg_fin hv hz hBv hgz hbT
          refine hK.out _ _ (hHeld.row_far (by have := hbT.size; have := arr_ltH (HB5.out.2 1 (show 1 < 2 by decide)); show w.heap.size + 2 ≤ v1.heap.size; omega) _) (fun hHeld => ?_)
          clear hK K
          (try simp only [Act.put, List.setIfInBounds_toArray, List.set_cons_zero, List.set_cons_succ])
          refine wpAnyH_done (by kernel_rfl) ?_ _
          exact ⟨⟨_, p, k, rfl, hF.2, hF.1⟩, by simp only [putAll, Act.put, List.setIfInBounds_toArray, List.set_cons_zero, List.set_cons_succ]; rfl⟩
      · rw [if_pos (by rfl)]
        go_simp
        have hz := Arr.fresh Wd 29 hoZ
        have hgz : V6.heap.size ≤ Wd.heap.size := hbT.size
        replace hbT := hbT.alloc hbT.size (.cells #[.int .i64 0, .int .i64 0, .int .i64 0, .int .i64 0, .int .i64 0, .slice none 0 0, .int .i64 0] 29)
        refine hK.out _ _ (hHeld.on ((Below.refl _ Wd).alloc (Nat.le_refl _) (.cells #[.int .i64 0, .int .i64 0, .int .i64 0, .int .i64 0, .int .i64 0, .slice none 0 0, .int .i64 0] 29))) (fun hHeld => ?_)
        clear hK K
        (try simp only [Act.put, List.setIfInBounds_toArray, List.set_cons_zero, List.set_cons_succ])
        refine wpAnyH_ready (rs := [1]) (by kernel_rfl) (by simp) ?_
        refine AllReadyH.cons rfl (fun K hK => ?_) AllReadyH.nil
        rw [if_pos (by rfl)]
        go_simp
        go_fit (i2 _)
        rintro e v7 ⟨rfl, hbN⟩
        replace hbT := hbT.trans (hbN.mono hbT.size)
        replace hz := arr_belowH hz hbN
        refine hK.out _ _ (hHeld.on hbN) (fun hHeld => ?_)
        clear hK K
        (try simp only [Act.put, List.setIfInBounds_toArray, List.set_cons_zero, List.set_cons_succ])
        refine wpAnyH_ready (rs := [3]) (by kernel_rfl) (by simp) ?_
        refine AllReadyH.cons rfl (fun K hK => ?_) AllReadyH.nil
        rw [if_pos (by rfl)]
        go_simp
        go_fit (i2s _)
        rintro e v8 ⟨rfl, hbN⟩
        replace hbT := hbT.trans (hbN.mono hbT.size)
        replace hz := arr_belowH hz hbN
        refine hK.out _ _ (hHeld.on hbN) (fun hHeld => ?_)
        clear hK K
        (try simp only [Act.put, List.setIfInBounds_toArray, List.set_cons_zero, List.set_cons_succ])
        refine wpAnyH_ready (rs := [4]) (by kernel_rfl) (by simp) ?_
        refine AllReadyH.cons rfl (fun K hK => ?_) AllReadyH.nil
        rw [if_pos (by rfl)]
        go_simp
        go_fit (i4 _)
        rintro e v9 ⟨⟨p, k, rfl, hv⟩, hbN⟩
        have hBv := hbT.size
        replace hbT := hbT.trans (hbN.mono hbT.size)
        replace hz := arr_belowH hz hbN
        refine hK.out _ _ (hHeld.on hbN) (fun hHeld => ?_)
        clear hK K
        (try simp only [Act.put, List.setIfInBounds_toArray, List.set_cons_zero, List.set_cons_succ])
        refine wpAnyH_ready (rs := [6]) (by kernel_rfl) (by simp) ?_
        refine AllReadyH.cons rfl (fun K hK => ?_) AllReadyH.nil
        rw [if_pos (by rfl)]
        refine wp_store_row 29 _ _ rfl Wd.heap.size _ rfl rfl 29 _ hz (by kernel_rfl) (by rfl) (by kernel_rfl) ?_
        have hF := reg_fin hv hz hBv hgz hbT
        refine hK.out _ _ (hHeld.row_far (by have := hbT.size; have := arr_ltH (HB5.out.2 1 (show 1 < 2 by decide)); show w.heap.size + 2 ≤ Wd.heap.size; omega) _) (fun hHeld => ?_)
        clear hK K
        (try simp only [Act.put, List.setIfInBounds_toArray, List.set_cons_zero, List.set_cons_succ])
        refine wpAnyH_done (by kernel_rfl) ?_ _
        exact ⟨⟨_, p, k, rfl, hF.2, hF.1⟩, by simp only [putAll, Act.put, List.setIfInBounds_toArray, List.set_cons_zero, List.set_cons_succ]; rfl⟩
    have hbT : Below V2.heap.size V2 V2.drew := (Below.refl _ _).drew
    refine wp_region_held_drew (S := fun W => Bx w W [(45, hfC h), (50, [.int .i64 x.k, .int .i64 x.n])]) (by kernel_rfl) (HB1.out.drew) (fun hHeld => ?_)
    generalize V2.drew = Wd at hHeld hbT ⊢
    refine takeQ (i := 0) (k := 15) (v := hfL h) rfl (by rfl) (by kernel_rfl) (by kernel_rfl) (by kernel_rfl) (fun _ _ _ h => h) (by rfl) ?_ hHeld ?_
    · intro w1 hSw; obtain ⟨⟨m0, m1, m2, m3, m4⟩, _⟩ := hf_cells (b := w.heap.size) (h := h) (hSw.2 0 (show 0 < 2 by decide)); go_simp
    (try simp only [Act.put, List.setIfInBounds_toArray, List.set_cons_zero, List.set_cons_succ])
    refine takeQ (i := 2) (k := 17) (v := sbL x) rfl (by rfl) (by kernel_rfl) (by kernel_rfl) (by kernel_rfl) (fun _ _ _ h => h) (by rfl) ?_ hHeld ?_
    · intro w1 hSw; obtain ⟨m0, m1⟩ := sb_cells (b := w.heap.size + 1) (hSw.2 1 (show 1 < 2 by decide)); go_simp
    (try simp only [Act.put, List.setIfInBounds_toArray, List.set_cons_zero, List.set_cons_succ])
    refine wpAnyH_ready (rs := [1, 5]) (by kernel_rfl) (by simp) ?_
    refine AllReadyH.cons rfl (fun K hK => ?_) (AllReadyH.cons rfl (fun K hK => ?_) AllReadyH.nil)
    · rw [if_pos (by rfl)]
      go_simp
      go_fit (i2 _)
      rintro e v1 ⟨rfl, hbN⟩
      replace hbT := hbT.trans (hbN.mono hbT.size)
      refine hK.out _ _ (hHeld.on hbN) (fun hHeld => ?_)
      clear hK K
      (try simp only [Act.put, List.setIfInBounds_toArray, List.set_cons_zero, List.set_cons_succ])
      refine wpAnyH_ready (rs := [3, 5]) (by kernel_rfl) (by simp) ?_
      refine AllReadyH.cons rfl (fun K hK => ?_) (AllReadyH.cons rfl (fun K hK => ?_) AllReadyH.nil)
      · rw [if_pos (by rfl)]
        go_simp
        go_fit (i2s _)
        rintro e v2 ⟨rfl, hbN⟩
        replace hbT := hbT.trans (hbN.mono hbT.size)
        refine hK.out _ _ (hHeld.on hbN) (fun hHeld => ?_)
        clear hK K
        (try simp only [Act.put, List.setIfInBounds_toArray, List.set_cons_zero, List.set_cons_succ])
        refine wpAnyH_ready (rs := [4, 5]) (by kernel_rfl) (by simp) ?_
        refine AllReadyH.cons rfl (fun K hK => ?_) (AllReadyH.cons rfl (fun K hK => ?_) AllReadyH.nil)
        · rw [if_pos (by rfl)]
          go_simp
          go_fit (i4 _)
          rintro e v3 ⟨⟨p, k, rfl, hv⟩, hbN⟩
          have hBv := hbT.size
          replace hbT := hbT.trans (hbN.mono hbT.size)
          refine hK.out _ _ (hHeld.on hbN) (fun hHeld => ?_)
          clear hK K
          (try simp only [Act.put, List.setIfInBounds_toArray, List.set_cons_zero, List.set_cons_succ])
          refine wpAnyH_ready (rs := [5]) (by kernel_rfl) (by simp) ?_
          refine AllReadyH.cons rfl (fun K hK => ?_) AllReadyH.nil
          rw [if_pos (by rfl)]
          go_simp
          have hz := Arr.fresh v3 29 hoZ
          have hgz : V2.heap.size ≤ v3.heap.size := hbT.size
          replace hbT := hbT.alloc hbT.size (.cells #[.int .i64 0, .int .i64 0, .int .i64 0, .int .i64 0, .int .i64 0, .slice none 0 0, .int .i64 0] 29)
          replace hv := hv.alloc (.cells #[.int .i64 0, .int .i64 0, .int .i64 0, .int .i64 0, .int .i64 0, .slice none 0 0, .int .i64 0] 29)
          refine hK.out _ _ (hHeld.on ((Below.refl _ v3).alloc (Nat.le_refl _) (.cells #[.int .i64 0, .int .i64 0, .int .i64 0, .int .i64 0, .int .i64 0, .slice none 0 0, .int .i64 0] 29))) (fun hHeld => ?_)
          clear hK K
          (try simp only [Act.put, List.setIfInBounds_toArray, List.set_cons_zero, List.set_cons_succ])
          refine wpAnyH_ready (rs := [6]) (by kernel_rfl) (by simp) ?_
          refine AllReadyH.cons rfl (fun K hK => ?_) AllReadyH.nil
          rw [if_pos (by rfl)]
          refine wp_store_row 29 _ _ rfl v3.heap.size _ rfl rfl 29 _ hz (by kernel_rfl) (by rfl) (by kernel_rfl) ?_
          have hF := reg_fin hv hz hBv hgz hbT
          refine hK.out _ _ (hHeld.row_far (by have := hbT.size; have := arr_ltH (HB1.out.2 1 (show 1 < 2 by decide)); show w.heap.size + 2 ≤ v3.heap.size; omega) _) (fun hHeld => ?_)
          clear hK K
          (try simp only [Act.put, List.setIfInBounds_toArray, List.set_cons_zero, List.set_cons_succ])
          refine wpAnyH_done (by kernel_rfl) ?_ _
          exact ⟨⟨_, p, k, rfl, hF.2, hF.1⟩, by simp only [putAll, Act.put, List.setIfInBounds_toArray, List.set_cons_zero, List.set_cons_succ]; rfl⟩
        · rw [if_pos (by rfl)]
          go_simp
          have hz := Arr.fresh v2 29 hoZ
          have hgz : V2.heap.size ≤ v2.heap.size := hbT.size
          replace hbT := hbT.alloc hbT.size (.cells #[.int .i64 0, .int .i64 0, .int .i64 0, .int .i64 0, .int .i64 0, .slice none 0 0, .int .i64 0] 29)
          refine hK.out _ _ (hHeld.on ((Below.refl _ v2).alloc (Nat.le_refl _) (.cells #[.int .i64 0, .int .i64 0, .int .i64 0, .int .i64 0, .int .i64 0, .slice none 0 0, .int .i64 0] 29))) (fun hHeld => ?_)
          clear hK K
          (try simp only [Act.put, List.setIfInBounds_toArray, List.set_cons_zero, List.set_cons_succ])
          refine wpAnyH_ready (rs := [4]) (by kernel_rfl) (by simp) ?_
          refine AllReadyH.cons rfl (fun K hK => ?_) AllReadyH.nil
          rw [if_pos (by rfl)]
          go_simp
          go_fit (i4 _)
          rintro e v4 ⟨⟨p, k, rfl, hv⟩, hbN⟩
          have hBv := hbT.size
          replace hbT := hbT.trans (hbN.mono hbT.size)
          replace hz := arr_belowH hz hbN
          refine hK.out _ _ (hHeld.on hbN) (fun hHeld => ?_)
          clear hK K
          (try simp only [Act.put, List.setIfInBounds_toArray, List.set_cons_zero, List.set_cons_succ])
          refine wpAnyH_ready (rs := [6]) (by kernel_rfl) (by simp) ?_
          refine AllReadyH.cons rfl (fun K hK => ?_) AllReadyH.nil
          rw [if_pos (by rfl)]
          refine wp_store_row 29 _ _ rfl v2.heap.size _ rfl rfl 29 _ hz (by kernel_rfl) (by rfl) (by kernel_rfl) ?_
          have hF := reg_fin hv hz hBv hgz hbT
          refine hK.out _ _ (hHeld.row_far (by have := hbT.size; have := arr_ltH (HB1.out.2 1 (show 1 < 2 by decide)); show w.heap.size + 2 ≤ v2.heap.size; omega) _) (fun hHeld => ?_)
          clear hK K
          (try simp only [Act.put, List.setIfInBounds_toArray, List.set_cons_zero, List.set_cons_succ])
          refine wpAnyH_done (by kernel_rfl) ?_ _
          exact ⟨⟨_, p, k, rfl, hF.2, hF.1⟩, by simp only [putAll, Act.put, List.setIfInBounds_toArray, List.set_cons_zero, List.set_cons_succ]; rfl⟩
      · rw [if_pos (by rfl)]
        go_simp
        have hz := Arr.fresh v1 29 hoZ
        have hgz : V2.heap.size ≤ v1.heap.size := hbT.size
        replace hbT := hbT.alloc hbT.size (.cells #[.int .i64 0, .int .i64 0, .int .i64 0, .int .i64 0, .int .i64 0, .slice none 0 0, .int .i64 0] 29)
        refine hK.out _ _ (hHeld.on ((Below.refl _ v1).alloc (Nat.le_refl _) (.cells #[.int .i64 0, .int .i64 0, .int .i64 0, .int .i64 0, .int .i64 0, .slice none 0 0, .int .i64 0] 29))) (fun hHeld => ?_)
        clear hK K
        (try simp only [Act.put, List.setIfInBounds_toArray, List.set_cons_zero, List.set_cons_succ])
        refine wpAnyH_ready (rs := [3]) (by kernel_rfl) (by simp) ?_
        refine AllReadyH.cons rfl (fun K hK => ?_) AllReadyH.nil
        rw [if_pos (by rfl)]
        go_simp
        go_fit (i2s _)
        rintro e v5 ⟨rfl, hbN⟩
        replace hbT := hbT.trans (hbN.mono hbT.size)
        replace hz := arr_belowH hz hbN
        refine hK.out _ _ (hHeld.on hbN) (fun hHeld => ?_)
        clear hK K
        (try simp only [Act.put, List.setIfInBounds_toArray, List.set_cons_zero, List.set_cons_succ])
        refine wpAnyH_ready (rs := [4]) (by kernel_rfl) (by simp) ?_
        refine AllReadyH.cons rfl (fun K hK => ?_) AllReadyH.nil
        rw [if_pos (by rfl)]
        go_simp
        go_fit (i4 _)
        rintro e v6 ⟨⟨p, k, rfl, hv⟩, hbN⟩
        have hBv := hbT.size
        replace hbT := hbT.trans (hbN.mono hbT.size)
        replace hz := arr_belowH hz hbN
        refine hK.out _ _ (hHeld.on hbN) (fun hHeld => ?_)
        clear hK K
        (try simp only [Act.put, List.setIfInBounds_toArray, List.set_cons_zero, List.set_cons_succ])
        refine wpAnyH_ready (rs := [6]) (by kernel_rfl) (by simp) ?_
        refine AllReadyH.cons rfl (fun K hK => ?_) AllReadyH.nil
        rw [if_pos (by rfl)]
        refine wp_store_row 29 _ _ rfl v1.heap.size _ rfl rfl 29 _ hz (by kernel_rfl) (by rfl) (by kernel_rfl) ?_
        have hF := reg_fin hv hz hBv hgz hbT
        refine hK.out _ _ (hHeld.row_far (by have := hbT.size; have := arr_ltH (HB1.out.2 1 (show 1 < 2 by decide)); show w.heap.size + 2 ≤ v1.heap.size; omega) _) (fun hHeld => ?_)
        clear hK K
        (try simp only [Act.put, List.setIfInBounds_toArray, List.set_cons_zero, List.set_cons_succ])
        refine wpAnyH_done (by kernel_rfl) ?_ _
        exact ⟨⟨_, p, k, rfl, hF.2, hF.1⟩, by simp only [putAll, Act.put, List.setIfInBounds_toArray, List.set_cons_zero, List.set_cons_succ]; rfl⟩
    · rw [if_pos (by rfl)]
      go_simp
      have hz := Arr.fresh Wd 29 hoZ
      have hgz : V2.heap.size ≤ Wd.heap.size := hbT.size
      replace hbT := hbT.alloc hbT.size (.cells #[.int .i64 0, .int .i64 0, .int .i64 0, .int .i64 0, .int .i64 0, .slice none 0 0, .int .i64 0] 29)
      refine hK.out _ _ (hHeld.on ((Below.refl _ Wd).alloc (Nat.le_refl _) (.cells #[.int .i64 0, .int .i64 0, .int .i64 0, .int .i64 0, .int .i64 0, .slice none 0 0, .int .i64 0] 29))) (fun hHeld => ?_)
      clear hK K
      (try simp only [Act.put, List.setIfInBounds_toArray, List.set_cons_zero, List.set_cons_succ])
      refine wpAnyH_ready (rs := [1]) (by kernel_rfl) (by simp) ?_
      refine AllReadyH.cons rfl (fun K hK => ?_) AllReadyH.nil
      rw [if_pos (by rfl)]
      go_simp
      go_fit (i2 _)
      rintro e v7 ⟨rfl, hbN⟩
      replace hbT := hbT.trans (hbN.mono hbT.size)
      replace hz := arr_belowH hz hbN
      refine hK.out _ _ (hHeld.on hbN) (fun hHeld => ?_)
      clear hK K
      (try simp only [Act.put, List.setIfInBounds_toArray, List.set_cons_zero, List.set_cons_succ])
      refine wpAnyH_ready (rs := [3]) (by kernel_rfl) (by simp) ?_
      refine AllReadyH.cons rfl (fun K hK => ?_) AllReadyH.nil
      rw [if_pos (by rfl)]
      go_simp
      go_fit (i2s _)
      rintro e v8 ⟨rfl, hbN⟩
      replace hbT := hbT.trans (hbN.mono hbT.size)
      replace hz := arr_belowH hz hbN
      refine hK.out _ _ (hHeld.on hbN) (fun hHeld => ?_)
      clear hK K
      (try simp only [Act.put, List.setIfInBounds_toArray, List.set_cons_zero, List.set_cons_succ])
      refine wpAnyH_ready (rs := [4]) (by kernel_rfl) (by simp) ?_
      refine AllReadyH.cons rfl (fun K hK => ?_) AllReadyH.nil
      rw [if_pos (by rfl)]
      go_simp
      go_fit (i4 _)
      rintro e v9 ⟨⟨p, k, rfl, hv⟩, hbN⟩
      have hBv := hbT.size
      replace hbT := hbT.trans (hbN.mono hbT.size)
      replace hz := arr_belowH hz hbN
      refine hK.out _ _ (hHeld.on hbN) (fun hHeld => ?_)
      clear hK K
      (try simp only [Act.put, List.setIfInBounds_toArray, List.set_cons_zero, List.set_cons_succ])
      refine wpAnyH_ready (rs := [6]) (by kernel_rfl) (by simp) ?_
      refine AllReadyH.cons rfl (fun K hK => ?_) AllReadyH.nil
      rw [if_pos (by rfl)]
      refine wp_store_row 29 _ _ rfl Wd.heap.size _ rfl rfl 29 _ hz (by kernel_rfl) (by rfl) (by kernel_rfl) ?_
      have hF := reg_fin hv hz hBv hgz hbT
      refine hK.out _ _ (hHeld.row_far (by have := hbT.size; have := arr_ltH (HB1.out.2 1 (show 1 < 2 by decide)); show w.heap.size + 2 ≤ Wd.heap.size; omega) _) (fun hHeld => ?_)
      clear hK K
      (try simp only [Act.put, List.setIfInBounds_toArray, List.set_cons_zero, List.set_cons_succ])
      refine wpAnyH_done (by kernel_rfl) ?_ _
      exact ⟨⟨_, p, k, rfl, hF.2, hF.1⟩, by simp only [putAll, Act.put, List.setIfInBounds_toArray, List.set_cons_zero, List.set_cons_succ]; rfl⟩
  have hbT : Below V1.heap.size V1 V1.drew := (Below.refl _ _).drew
  refine wp_region_held_drew (S := fun W => Bx w W [(45, hfC h), (50, [.int .i64 x.k, .int .i64 x.n])]) (by kernel_rfl) (HB0'.out.drew) (fun hHeld => ?_)
  generalize V1.drew = Wd at hHeld hbT ⊢
  refine takeQ (i := 0) (k := 10) (v := hfL h) rfl (by rfl) (by kernel_rfl) (by kernel_rfl) (by kernel_rfl) (fun _ _ _ h => h) (by rfl) ?_ hHeld ?_
  · intro w1 hSw; obtain ⟨⟨m0, m1, m2, m3, m4⟩, _⟩ := hf_cells (b := w.heap.size) (h := h) (hSw.2 0 (show 0 < 2 by decide)); go_simp
  (try simp only [Act.put, List.setIfInBounds_toArray, List.set_cons_zero, List.set_cons_succ])
  refine takeQ (i := 2) (k := 12) (v := sbL x) rfl (by rfl) (by kernel_rfl) (by kernel_rfl) (by kernel_rfl) (fun _ _ _ h => h) (by rfl) ?_ hHeld ?_
  · intro w1 hSw; obtain ⟨m0, m1⟩ := sb_cells (b := w.heap.size + 1) (hSw.2 1 (show 1 < 2 by decide)); go_simp
  (try simp only [Act.put, List.setIfInBounds_toArray, List.set_cons_zero, List.set_cons_succ])
  refine wpAnyH_ready (rs := [1, 5]) (by kernel_rfl) (by simp) ?_
  refine AllReadyH.cons rfl (fun K hK => ?_) (AllReadyH.cons rfl (fun K hK => ?_) AllReadyH.nil)
  · rw [if_pos (by rfl)]
    go_simp
    go_fit (i2 _)
    rintro e v1 ⟨rfl, hbN⟩
    replace hbT := hbT.trans (hbN.mono hbT.size)
    refine hK.out _ _ (hHeld.on hbN) (fun hHeld => ?_)
    clear hK K
    (try simp only [Act.put, List.setIfInBounds_toArray, List.set_cons_zero, List.set_cons_succ])
    refine wpAnyH_ready (rs := [3, 5]) (by kernel_rfl) (by simp) ?_
    refine AllReadyH.cons rfl (fun K hK => ?_) (AllReadyH.cons rfl (fun K hK => ?_) AllReadyH.nil)
    · rw [if_pos (by rfl)]
      go_simp
      go_fit (i2s _)
      rintro e v2 ⟨rfl, hbN⟩
      replace hbT := hbT.trans (hbN.mono hbT.size)
      refine hK.out _ _ (hHeld.on hbN) (fun hHeld => ?_)
      clear hK K
      (try simp only [Act.put, List.setIfInBounds_toArray, List.set_cons_zero, List.set_cons_succ])
      refine wpAnyH_ready (rs := [4, 5]) (by kernel_rfl) (by simp) ?_
      refine AllReadyH.cons rfl (fun K hK => ?_) (AllReadyH.cons rfl (fun K hK => ?_) AllReadyH.nil)
      · rw [if_pos (by rfl)]
        go_simp
        go_fit (i3 _)
        rintro e v3 ⟨⟨p, k, rfl, hv⟩, hbN⟩
        have hBv := hbT.size
        replace hbT := hbT.trans (hbN.mono hbT.size)
        refine hK.out _ _ (hHeld.on hbN) (fun hHeld => ?_)
        clear hK K
        (try simp only [Act.put, List.setIfInBounds_toArray, List.set_cons_zero, List.set_cons_succ])
        refine wpAnyH_ready (rs := [5]) (by kernel_rfl) (by simp) ?_
        refine AllReadyH.cons rfl (fun K hK => ?_) AllReadyH.nil
        rw [if_pos (by rfl)]
        go_simp
        have hz := Arr.fresh v3 29 hoZ
        have hgz : V1.heap.size ≤ v3.heap.size := hbT.size
        replace hbT := hbT.alloc hbT.size (.cells #[.int .i64 0, .int .i64 0, .int .i64 0, .int .i64 0, .int .i64 0, .slice none 0 0, .int .i64 0] 29)
        replace hv := hv.alloc (.cells #[.int .i64 0, .int .i64 0, .int .i64 0, .int .i64 0, .int .i64 0, .slice none 0 0, .int .i64 0] 29)
        refine hK.out _ _ (hHeld.on ((Below.refl _ v3).alloc (Nat.le_refl _) (.cells #[.int .i64 0, .int .i64 0, .int .i64 0, .int .i64 0, .int .i64 0, .slice none 0 0, .int .i64 0] 29))) (fun hHeld => ?_)
        clear hK K
        (try simp only [Act.put, List.setIfInBounds_toArray, List.set_cons_zero, List.set_cons_succ])
        refine wpAnyH_ready (rs := [6]) (by kernel_rfl) (by simp) ?_
        refine AllReadyH.cons rfl (fun K hK => ?_) AllReadyH.nil
        rw [if_pos (by rfl)]
        refine wp_store_row 29 _ _ rfl v3.heap.size _ rfl rfl 29 _ hz (by kernel_rfl) (by rfl) (by kernel_rfl) ?_
        have hF := reg_fin hv hz hBv hgz hbT
        refine hK.out _ _ (hHeld.row_far (by have := hbT.size; have := arr_ltH (HB0'.out.2 1 (show 1 < 2 by decide)); show w.heap.size + 2 ≤ v3.heap.size; omega) _) (fun hHeld => ?_)
        clear hK K
        (try simp only [Act.put, List.setIfInBounds_toArray, List.set_cons_zero, List.set_cons_succ])
        refine wpAnyH_done (by kernel_rfl) ?_ _
        exact ⟨⟨_, p, k, rfl, hF.2, hF.1⟩, by simp only [putAll, Act.put, List.setIfInBounds_toArray, List.set_cons_zero, List.set_cons_succ]; rfl⟩
      · rw [if_pos (by rfl)]
        go_simp
        have hz := Arr.fresh v2 29 hoZ
        have hgz : V1.heap.size ≤ v2.heap.size := hbT.size
        replace hbT := hbT.alloc hbT.size (.cells #[.int .i64 0, .int .i64 0, .int .i64 0, .int .i64 0, .int .i64 0, .slice none 0 0, .int .i64 0] 29)
        refine hK.out _ _ (hHeld.on ((Below.refl _ v2).alloc (Nat.le_refl _) (.cells #[.int .i64 0, .int .i64 0, .int .i64 0, .int .i64 0, .int .i64 0, .slice none 0 0, .int .i64 0] 29))) (fun hHeld => ?_)
        clear hK K
        (try simp only [Act.put, List.setIfInBounds_toArray, List.set_cons_zero, List.set_cons_succ])
        refine wpAnyH_ready (rs := [4]) (by kernel_rfl) (by simp) ?_
        refine AllReadyH.cons rfl (fun K hK => ?_) AllReadyH.nil
        rw [if_pos (by rfl)]
        go_simp
        go_fit (i3 _)
        rintro e v4 ⟨⟨p, k, rfl, hv⟩, hbN⟩
        have hBv := hbT.size
        replace hbT := hbT.trans (hbN.mono hbT.size)
        replace hz := arr_belowH hz hbN
        refine hK.out _ _ (hHeld.on hbN) (fun hHeld => ?_)
        clear hK K
        (try simp only [Act.put, List.setIfInBounds_toArray, List.set_cons_zero, List.set_cons_succ])
        refine wpAnyH_ready (rs := [6]) (by kernel_rfl) (by simp) ?_
        refine AllReadyH.cons rfl (fun K hK => ?_) AllReadyH.nil
        rw [if_pos (by rfl)]
        refine wp_store_row 29 _ _ rfl v2.heap.size _ rfl rfl 29 _ hz (by kernel_rfl) (by rfl) (by kernel_rfl) ?_
        have hF := reg_fin hv hz hBv hgz hbT
        refine hK.out _ _ (hHeld.row_far (by have := hbT.size; have := arr_ltH (HB0'.out.2 1 (show 1 < 2 by decide)); show w.heap.size + 2 ≤ v2.heap.size; omega) _) (fun hHeld => ?_)
        clear hK K
        (try simp only [Act.put, List.setIfInBounds_toArray, List.set_cons_zero, List.set_cons_succ])
        refine wpAnyH_done (by kernel_rfl) ?_ _
        exact ⟨⟨_, p, k, rfl, hF.2, hF.1⟩, by simp only [putAll, Act.put, List.setIfInBounds_toArray, List.set_cons_zero, List.set_cons_succ]; rfl⟩
    · rw [if_pos (by rfl)]
      go_simp
      have hz := Arr.fresh v1 29 hoZ
      have hgz : V1.heap.size ≤ v1.heap.size := hbT.size
      replace hbT := hbT.alloc hbT.size (.cells #[.int .i64 0, .int .i64 0, .int .i64 0, .int .i64 0, .int .i64 0, .slice none 0 0, .int .i64 0] 29)
      refine hK.out _ _ (hHeld.on ((Below.refl _ v1).alloc (Nat.le_refl _) (.cells #[.int .i64 0, .int .i64 0, .int .i64 0, .int .i64 0, .int .i64 0, .slice none 0 0, .int .i64 0] 29))) (fun hHeld => ?_)
      clear hK K
      (try simp only [Act.put, List.setIfInBounds_toArray, List.set_cons_zero, List.set_cons_succ])
      refine wpAnyH_ready (rs := [3]) (by kernel_rfl) (by simp) ?_
      refine AllReadyH.cons rfl (fun K hK => ?_) AllReadyH.nil
      rw [if_pos (by rfl)]
      go_simp
      go_fit (i2s _)
      rintro e v5 ⟨rfl, hbN⟩
      replace hbT := hbT.trans (hbN.mono hbT.size)
      replace hz := arr_belowH hz hbN
      refine hK.out _ _ (hHeld.on hbN) (fun hHeld => ?_)
      clear hK K
      (try simp only [Act.put, List.setIfInBounds_toArray, List.set_cons_zero, List.set_cons_succ])
      refine wpAnyH_ready (rs := [4]) (by kernel_rfl) (by simp) ?_
      refine AllReadyH.cons rfl (fun K hK => ?_) AllReadyH.nil
      rw [if_pos (by rfl)]
      go_simp
      go_fit (i3 _)
      rintro e v6 ⟨⟨p, k, rfl, hv⟩, hbN⟩
      have hBv := hbT.size
      replace hbT := hbT.trans (hbN.mono hbT.size)
      replace hz := arr_belowH hz hbN
      refine hK.out _ _ (hHeld.on hbN) (fun hHeld => ?_)
      clear hK K
      (try simp only [Act.put, List.setIfInBounds_toArray, List.set_cons_zero, List.set_cons_succ])
      refine wpAnyH_ready (rs := [6]) (by kernel_rfl) (by simp) ?_
      refine AllReadyH.cons rfl (fun K hK => ?_) AllReadyH.nil
      rw [if_pos (by rfl)]
      refine wp_store_row 29 _ _ rfl v1.heap.size _ rfl rfl 29 _ hz (by kernel_rfl) (by rfl) (by kernel_rfl) ?_
      have hF := reg_fin hv hz hBv hgz hbT
      refine hK.out _ _ (hHeld.row_far (by have := hbT.size; have := arr_ltH (HB0'.out.2 1 (show 1 < 2 by decide)); show w.heap.size + 2 ≤ v1.heap.size; omega) _) (fun hHeld => ?_)
      clear hK K
      (try simp only [Act.put, List.setIfInBounds_toArray, List.set_cons_zero, List.set_cons_succ])
      refine wpAnyH_done (by kernel_rfl) ?_ _
      exact ⟨⟨_, p, k, rfl, hF.2, hF.1⟩, by simp only [putAll, Act.put, List.setIfInBounds_toArray, List.set_cons_zero, List.set_cons_succ]; rfl⟩
  · rw [if_pos (by rfl)]
    go_simp
    have hz := Arr.fresh Wd 29 hoZ
    have hgz : V1.heap.size ≤ Wd.heap.size := hbT.size
    replace hbT := hbT.alloc hbT.size (.cells #[.int .i64 0, .int .i64 0, .int .i64 0, .int .i64 0, .int .i64 0, .slice none 0 0, .int .i64 0] 29)
    refine hK.out _ _ (hHeld.on ((Below.refl _ Wd).alloc (Nat.le_refl _) (.cells #[.int .i64 0, .int .i64 0, .int .i64 0, .int .i64 0, .int .i64 0, .slice none 0 0, .int .i64 0] 29))) (fun hHeld => ?_)
    clear hK K
    (try simp only [Act.put, List.setIfInBounds_toArray, List.set_cons_zero, List.set_cons_succ])
    refine wpAnyH_ready (rs := [1]) (by kernel_rfl) (by simp) ?_
    refine AllReadyH.cons rfl (fun K hK => ?_) AllReadyH.nil
    rw [if_pos (by rfl)]
    go_simp
    go_fit (i2 _)
    rintro e v7 ⟨rfl, hbN⟩
    replace hbT := hbT.trans (hbN.mono hbT.size)
    replace hz := arr_belowH hz hbN
    refine hK.out _ _ (hHeld.on hbN) (fun hHeld => ?_)
    clear hK K
    (try simp only [Act.put, List.setIfInBounds_toArray, List.set_cons_zero, List.set_cons_succ])
    refine wpAnyH_ready (rs := [3]) (by kernel_rfl) (by simp) ?_
    refine AllReadyH.cons rfl (fun K hK => ?_) AllReadyH.nil
    rw [if_pos (by rfl)]
    go_simp
    go_fit (i2s _)
    rintro e v8 ⟨rfl, hbN⟩
    replace hbT := hbT.trans (hbN.mono hbT.size)
    replace hz := arr_belowH hz hbN
    refine hK.out _ _ (hHeld.on hbN) (fun hHeld => ?_)
    clear hK K
    (try simp only [Act.put, List.setIfInBounds_toArray, List.set_cons_zero, List.set_cons_succ])
    refine wpAnyH_ready (rs := [4]) (by kernel_rfl) (by simp) ?_
    refine AllReadyH.cons rfl (fun K hK => ?_) AllReadyH.nil
    rw [if_pos (by rfl)]
    go_simp
    go_fit (i3 _)
    rintro e v9 ⟨⟨p, k, rfl, hv⟩, hbN⟩
    have hBv := hbT.size
    replace hbT := hbT.trans (hbN.mono hbT.size)
    replace hz := arr_belowH hz hbN
    refine hK.out _ _ (hHeld.on hbN) (fun hHeld => ?_)
    clear hK K
    (try simp only [Act.put, List.setIfInBounds_toArray, List.set_cons_zero, List.set_cons_succ])
    refine wpAnyH_ready (rs := [6]) (by kernel_rfl) (by simp) ?_
    refine AllReadyH.cons rfl (fun K hK => ?_) AllReadyH.nil
    rw [if_pos (by rfl)]
    refine wp_store_row 29 _ _ rfl Wd.heap.size _ rfl rfl 29 _ hz (by kernel_rfl) (by rfl) (by kernel_rfl) ?_
    have hF := reg_fin hv hz hBv hgz hbT
    refine hK.out _ _ (hHeld.row_far (by have := hbT.size; have := arr_ltH (HB0'.out.2 1 (show 1 < 2 by decide)); show w.heap.size + 2 ≤ Wd.heap.size; omega) _) (fun hHeld => ?_)
    clear hK K
    (try simp only [Act.put, List.setIfInBounds_toArray, List.set_cons_zero, List.set_cons_succ])
    refine wpAnyH_done (by kernel_rfl) ?_ _
    exact ⟨⟨_, p, k, rfl, hF.2, hF.1⟩, by simp only [putAll, Act.put, List.setIfInBounds_toArray, List.set_cons_zero, List.set_cons_succ]; rfl⟩
end Go.Proofs.Ytgfpcmfcnphalaa
