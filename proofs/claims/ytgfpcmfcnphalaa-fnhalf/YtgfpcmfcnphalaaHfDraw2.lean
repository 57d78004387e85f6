/- A drawn half. -/
import Derived.Test.YtgfpcmfcnphalaaHfDraw1
namespace Go.Proofs.Ytgfpcmfcnphalaa
set_option linter.unusedSimpArgs false
set_option linter.unusedVariables false
open Go.RowKit Go.Joins

theorem ho_cellsD {W : World} {b t m k : Nat} {h : HfL} {p : Option Addr} {c : Int} (hA : Arr W b t (hoC h p m k c)) :
    W.cell? ⟨b, 0, none⟩ = some (.int .i64 h.n) ∧ W.cell? ⟨b, 1, none⟩ = some (.int .i64 h.o) ∧ W.cell? ⟨b, 2, none⟩ = some (.int .i64 h.t) ∧ W.cell? ⟨b, 3, none⟩ = some (.int .i64 h.i) ∧ W.cell? ⟨b, 4, none⟩ = some (.int .i64 h.f) ∧ W.cell? ⟨b, 5, none⟩ = some (.slice p m k) ∧ W.cell? ⟨b, 6, none⟩ = some (.int .i64 c) :=
  ⟨hA.cell 0, hA.cell 1, hA.cell 2, hA.cell 3, hA.cell 4, hA.cell 5, hA.cell 6⟩
theorem HfD.rowfar {B g : Nat} {w W : World} {l : List (Nat × List Value)} (h : HfD B g w W l) {b : Nat} (hb : w.heap.size + l.length ≤ b) (cs : Array Value) : HfD B g w (W.setRow b cs) l := by
  have hlt := h.lt
  have hBg := h.src.1
  exact ⟨h.src.other (r := some b) ⟨rfl, rfl, rfl, by simp, fun k hk hne => setRow_other W b k _ (fun e => hne (by rw [e]))⟩ (fun q e => by injection e; omega) h.src.lt (fun q e => by injection e; omega), ⟨h.gr.os, h.gr.tape, h.gr.output, by simpa using h.gr.size, fun k hk hne => (setRow_other W b k _ (by omega)).trans (h.gr.block k hk hne)⟩, fun k hk => (setRow_other W b _ _ (by omega)).trans (h.bx k hk), hlt⟩
set_option maxHeartbeats 4000000 in
theorem draw_half (B g : Nat) (w : World) (hS : Src w B g) : Calls Try.prog 36 #[.pointer (some ⟨g, 0, none⟩)] w fun e w' => (∃ h, e = .returned (hfL h)) ∧ Src w' B g ∧ w.grownBy w' (some g) := by
  have HD := Lib.hid (hfd_start hS (bx2 w 24 24 (hfC hf0) (hfC hf0)))
  have hlt := hS.lt
  clear hS
  go_enter Try.func36, Try.ntmps36
  go_wp2_with (go_at_call 37; go_fit (src_n B g 6 _ (by omega) HD.out.src); rintro e w1 ⟨_, rfl, ⟨r1, rfl, ha1, hb1⟩, hS1, hg1⟩; have HD1 := Lib.hid (HD.out.draw hS1 hg1); clear hS1 hg1)
  clear HD
  have hr1 : r1 ≤ 5 := by omega
  clear hb1
  go_loopw [4] (fun kq wr => ∃ (r : Int) (h : HfL), kq = .int .i64 r ∧ 0 ≤ r ∧ r ≤ 5 ∧ HfD B g w wr [(24, hfC hf0), (24, hfC h)]) (fun k _ => (intOf k).toNat)
  case atStart => exact ⟨r1, hf0, rfl, ha1, hr1, HD1.out⟩
  case round =>
    clear HD1 ha1 hr1
    obtain ⟨r, h, rfl, hr0, hr5, hd⟩ := hrel
    have HDr := Lib.hid hd
    clear hd
    by_cases hrz : 0 < r
    · go_wp2_with (go_at_call 41; go_fit (src_one B g 2 _ (by omega) HDr.out.src); rintro e w2 ⟨_, rfl, ⟨b, rfl⟩, hS2, hg2⟩; have HD2 := Lib.hid (HDr.out.draw hS2 hg2); clear hS2 hg2; cases b)
      · refine region_join (List.range' 25 6) (fun vs W => ∃ hh, HfD B g w W [(24, hfC hf0), (24, hfC hh)]) ?_ ?_
        rotate_left
        · rintro vs W5 ⟨hh, hd5⟩
          simp only [putAll, List.range', Act.put, List.setIfInBounds_toArray, List.set_cons_zero, List.set_cons_succ]
          go_wp2
          exact ⟨⟨r - 1, hh, rfl, by omega, by omega, hd5⟩, by simp [intOf]; omega⟩
        have hd0 := HD2.out.on (Below.refl _ w2).drew
        refine wp_region_held_drew (S := fun _ => True) (by kernel_rfl) trivial (fun hHeld => ?_)
        generalize w2.drew = Wd at hHeld hd0 ⊢
        refine takeQ (i := 1) (k := 26) (v := .pointer (some ⟨g, 0, none⟩)) rfl (by rfl) (by kernel_rfl) (by kernel_rfl) (by kernel_rfl) (fun _ _ _ h => h) (by rfl) ?_ hHeld ?_
        · intro w1 hSw; go_simp
        (try simp only [Act.put, List.setIfInBounds_toArray, List.set_cons_zero, List.set_cons_succ])
        obtain ⟨⟨c0, c1, c2, c3, c4⟩, _⟩ := hf_cells (b := w.heap.size + 1) (h := h) (hd0.bx 1 (show 1 < 2 by decide))
        refine wpAnyH_ready (rs := [0, 2]) (by kernel_rfl) (by simp) ?_
        refine AllReadyH.cons rfl (fun K hK => ?_) (AllReadyH.cons rfl (fun K hK => ?_) AllReadyH.nil)
        · rw [if_pos (by rfl)]
          go_simp
          refine hK.out _ _ (trivial) (fun hHeld => ?_)
          clear hK K
          (try simp only [Act.put, List.setIfInBounds_toArray, List.set_cons_zero, List.set_cons_succ])
          refine wpAnyH_ready (rs := [2]) (by kernel_rfl) (by simp) ?_
          refine AllReadyH.cons rfl (fun K hK => ?_) AllReadyH.nil
          rw [if_pos (by rfl)]
          go_simp
          refine hK.out _ _ (trivial) (fun hHeld => ?_)
          clear hK K
          (try simp only [Act.put, List.setIfInBounds_toArray, List.set_cons_zero, List.set_cons_succ])
          clear c0 c1 c2 c3 c4
          refine wpAnyH_ready (rs := [3]) (by kernel_rfl) (by simp) ?_
          refine AllReadyH.cons rfl (fun K hK => ?_) AllReadyH.nil
          rw [if_pos (by rfl)]
          go_simp
          go_fit (draw_sub B g h _ hd0.src)
          rintro e W4 ⟨⟨x, rfl⟩, hS4, hg4⟩
          replace hd0 := hd0.draw hS4 hg4
          refine hK.out _ _ (trivial) (fun hHeld => ?_)
          clear hK K
          (try simp only [Act.put, List.setIfInBounds_toArray, List.set_cons_zero, List.set_cons_succ])
          refine wpAnyH_ready (rs := [4]) (by kernel_rfl) (by simp) ?_
          refine AllReadyH.cons rfl (fun K hK => ?_) AllReadyH.nil
          rw [if_pos (by rfl)]
          go_simp
          go_fit (spec_hear h x _)
          rintro e W5 ⟨⟨p, k, rfl, hv⟩, hb5⟩
          replace hd0 := hd0.on hb5
          refine hK.out _ _ (trivial) (fun hHeld => ?_)
          clear hK K
          (try simp only [Act.put, List.setIfInBounds_toArray, List.set_cons_zero, List.set_cons_succ])
          refine wpAnyH_ready (rs := [5]) (by kernel_rfl) (by simp) ?_
          refine AllReadyH.cons rfl (fun K hK => ?_) AllReadyH.nil
          rw [if_pos (by rfl)]
          go_simp
          refine hK.out _ _ (trivial) (fun hHeld => ?_)
          clear hK K
          (try simp only [Act.put, List.setIfInBounds_toArray, List.set_cons_zero, List.set_cons_succ])
          refine wpAnyH_ready (rs := [6]) (by kernel_rfl) (by simp) ?_
          refine AllReadyH.cons rfl (fun K hK => ?_) AllReadyH.nil
          rw [if_pos (by rfl)]
          refine wp_store_row 24 _ _ rfl (w.heap.size + 1) _ rfl rfl 24 _ (hd0.bx 1 (show 1 < 2 by decide)) (by kernel_rfl) (by rfl) (by kernel_rfl) ?_
          have hF := hd0.row 1 (show 1 < 2 by decide) (hfC (hearR h x).h)
          refine hK.out _ _ (trivial) (fun hHeld => ?_)
          clear hK K
          (try simp only [Act.put, List.setIfInBounds_toArray, List.set_cons_zero, List.set_cons_succ])
          refine wpAnyH_done (by kernel_rfl) ?_ _
          exact ⟨⟨_, hF⟩, by simp only [putAll, List.range', Act.put, List.setIfInBounds_toArray, List.set_cons_zero, List.set_cons_succ]; rfl⟩
        · rw [if_pos (by rfl)]
          go_simp
          refine hK.out _ _ (trivial) (fun hHeld => ?_)
          clear hK K
          (try simp only [Act.put, List.setIfInBounds_toArray, List.set_cons_zero, List.set_cons_succ])
          refine wpAnyH_ready (rs := [0, 3]) (by kernel_rfl) (by simp) ?_
          refine AllReadyH.cons rfl (fun K hK => ?_) (AllReadyH.cons rfl (fun K hK => ?_) AllReadyH.nil)
          · rw [if_pos (by rfl)]
            go_simp
            refine hK.out _ _ (trivial) (fun hHeld => ?_)
            clear hK K
            (try simp only [Act.put, List.setIfInBounds_toArray, List.set_cons_zero, List.set_cons_succ])
            clear c0 c1 c2 c3 c4
            refine wpAnyH_ready (rs := [3]) (by kernel_rfl) (by simp) ?_
            refine AllReadyH.cons rfl (fun K hK => ?_) AllReadyH.nil
            rw [if_pos (by rfl)]
            go_simp
            go_fit (draw_sub B g h _ hd0.src)
            rintro e W4 ⟨⟨x, rfl⟩, hS4, hg4⟩
            replace hd0 := hd0.draw hS4 hg4
            refine hK.out _ _ (trivial) (fun hHeld => ?_)
            clear hK K
            (try simp only [Act.put, List.setIfInBounds_toArray, List.set_cons_zero, List.set_cons_succ])
            refine wpAnyH_ready (rs := [4]) (by kernel_rfl) (by simp) ?_
            refine AllReadyH.cons rfl (fun K hK => ?_) AllReadyH.nil
            rw [if_pos (by rfl)]
            go_simp
            go_fit (spec_hear h x _)
            rintro e W5 ⟨⟨p, k, rfl, hv⟩, hb5⟩
            replace hd0 := hd0.on hb5
            refine hK.out _ _ (trivial) (fun hHeld => ?_)
            clear hK K
            (try simp only [Act.put, List.setIfInBounds_toArray, List.set_cons_zero, List.set_cons_succ])
            refine wpAnyH_ready (rs := [5]) (by kernel_rfl) (by simp) ?_
            refine AllReadyH.cons rfl (fun K hK => ?_) AllReadyH.nil
            rw [if_pos (by rfl)]
            go_simp
            refine hK.out _ _ (trivial) (fun hHeld => ?_)
            clear hK K
            (try simp only [Act.put, List.setIfInBounds_toArray, List.set_cons_zero, List.set_cons_succ])
            refine wpAnyH_ready (rs := [6]) (by kernel_rfl) (by simp) ?_
            refine AllReadyH.cons rfl (fun K hK => ?_) AllReadyH.nil
            rw [if_pos (by rfl)]
            refine wp_store_row 24 _ _ rfl (w.heap.size + 1) _ rfl rfl 24 _ (hd0.bx 1 (show 1 < 2 by decide)) (by kernel_rfl) (by rfl) (by kernel_rfl) ?_
            have hF := hd0.row 1 (show 1 < 2 by decide) (hfC (hearR h x).h)
            refine hK.out _ _ (trivial) (fun hHeld => ?_)
            clear hK K
            (try simp only [Act.put, List.setIfInBounds_toArray, List.set_cons_zero, List.set_cons_succ])
            refine wpAnyH_done (by kernel_rfl) ?_ _
            exact ⟨⟨_, hF⟩, by simp only [putAll, List.range', Act.put, List.setIfInBounds_toArray, List.set_cons_zero, List.set_cons_succ]; rfl⟩
          · rw [if_pos (by rfl)]
            go_simp
            clear c0 c1 c2 c3 c4
            go_fit (draw_sub B g h _ hd0.src)
            rintro e W4 ⟨⟨x, rfl⟩, hS4, hg4⟩
            replace hd0 := hd0.draw hS4 hg4
            refine hK.out _ _ (trivial) (fun hHeld => ?_)
            clear hK K
            (try simp only [Act.put, List.setIfInBounds_toArray, List.set_cons_zero, List.set_cons_succ])
            obtain ⟨⟨c0, c1, c2, c3, c4⟩, _⟩ := hf_cells (b := w.heap.size + 1) (h := h) (hd0.bx 1 (show 1 < 2 by decide))
            refine wpAnyH_ready (rs := [0]) (by kernel_rfl) (by simp) ?_
            refine AllReadyH.cons rfl (fun K hK => ?_) AllReadyH.nil
            rw [if_pos (by rfl)]
            go_simp
            refine hK.out _ _ (trivial) (fun hHeld => ?_)
            clear hK K
            (try simp only [Act.put, List.setIfInBounds_toArray, List.set_cons_zero, List.set_cons_succ])
            clear c0 c1 c2 c3 c4
            refine wpAnyH_ready (rs := [4]) (by kernel_rfl) (by simp) ?_
            refine AllReadyH.cons rfl (fun K hK => ?_) AllReadyH.nil
            rw [if_pos (by rfl)]
            go_simp
            go_fit (spec_hear h x _)
            rintro e W5 ⟨⟨p, k, rfl, hv⟩, hb5⟩
            replace hd0 := hd0.on hb5
            refine hK.out _ _ (trivial) (fun hHeld => ?_)
            clear hK K
            (try simp only [Act.put, List.setIfInBounds_toArray, List.set_cons_zero, List.set_cons_succ])
            refine wpAnyH_ready (rs := [5]) (by kernel_rfl) (by simp) ?_
            refine AllReadyH.cons rfl (fun K hK => ?_) AllReadyH.nil
            rw [if_pos (by rfl)]
            go_simp
            refine hK.out _ _ (trivial) (fun hHeld => ?_)
            clear hK K
            (try simp only [Act.put, List.setIfInBounds_toArray, List.set_cons_zero, List.set_cons_succ])
            refine wpAnyH_ready (rs := [6]) (by kernel_rfl) (by simp) ?_
            refine AllReadyH.cons rfl (fun K hK => ?_) AllReadyH.nil
            rw [if_pos (by rfl)]
            refine wp_store_row 24 _ _ rfl (w.heap.size + 1) _ rfl rfl 24 _ (hd0.bx 1 (show 1 < 2 by decide)) (by kernel_rfl) (by rfl) (by kernel_rfl) ?_
            have hF := hd0.row 1 (show 1 < 2 by decide) (hfC (hearR h x).h)
            refine hK.out _ _ (trivial) (fun hHeld => ?_)
            clear hK K
            (try simp only [Act.put, List.setIfInBounds_toArray, List.set_cons_zero, List.set_cons_succ])
            refine wpAnyH_done (by kernel_rfl) ?_ _
            exact ⟨⟨_, hF⟩, by simp only [putAll, List.range', Act.put, List.setIfInBounds_toArray, List.set_cons_zero, List.set_cons_succ]; rfl⟩
      · refine region_join [15, 16, 17, 18, 19, 5] (fun vs W => HfD B g w W [(24, hfC hf0), (24, hfC h)] ∧ ∃ gg p n k hh c, vs 5 = .pointer (some ⟨gg, 0, none⟩) ∧ w.heap.size + 2 ≤ gg ∧ Arr W gg 29 (hoC hh p n k c)) ?_ ?_
        rotate_left
        · rintro vs W5 ⟨hd5, gg, p, n, k, hh, c, hv, hgg, hA⟩
          have HD5 := Lib.hid hd5
          have HA5 := Lib.hid hA
          clear hd5 hA HD2 HDr
          simp only [putAll, Act.put, List.setIfInBounds_toArray, List.set_cons_zero, List.set_cons_succ]
          rw [hv]
          clear hv
          obtain ⟨d0, d1, d2, d3, d4, d5, d6⟩ := ho_cellsD HA5.out
          go_wp2_with (refine wpList_store_row rfl 24 _ _ rfl (w.heap.size + 1) _ rfl rfl 24 _ (HD5.out.bx 1 (show 1 < 2 by decide)) (by kernel_rfl) (by rfl) (by kernel_rfl) ?_)
          all_goals first
            | exact ⟨⟨r - 1, _, rfl, by omega, by omega, HD5.out.row 1 (show 1 < 2 by decide) (hfC hh)⟩, by simp [intOf]; omega⟩
            | exact ⟨⟨r - 1, _, rfl, by omega, by omega, HD5.out⟩, by simp [intOf]; omega⟩
        have hd0 := HD2.out.on (Below.refl _ w2).drew
        refine wp_region_held_drew (S := fun W => Arr W (w.heap.size + 1) 24 (hfC h)) (by kernel_rfl) (hd0.bx 1 (show 1 < 2 by decide)) (fun hHeld => ?_)
        generalize w2.drew = Wd at hHeld hd0 ⊢
        refine takeQ (i := 0) (k := 15) (v := hfL h) rfl (by rfl) (by kernel_rfl) (by kernel_rfl) (by kernel_rfl) (fun _ _ _ h => h) (by rfl) ?_ hHeld ?_
        · intro w1 hSw; obtain ⟨⟨m0, m1, m2, m3, m4⟩, _⟩ := hf_cells (b := w.heap.size + 1) (h := h) hSw; go_simp
        (try simp only [Act.put, List.setIfInBounds_toArray, List.set_cons_zero, List.set_cons_succ])
        refine takeQ (i := 1) (k := 16) (v := .pointer (some ⟨g, 0, none⟩)) rfl (by rfl) (by kernel_rfl) (by kernel_rfl) (by kernel_rfl) (fun _ _ _ h => h) (by rfl) ?_ hHeld ?_
        · intro w1 hSw; go_simp
        (try simp only [Act.put, List.setIfInBounds_toArray, List.set_cons_zero, List.set_cons_succ])
        refine wpAnyH_ready (rs := [2, 5]) (by kernel_rfl) (by simp) ?_
        refine AllReadyH.cons rfl (fun K hK => ?_) (AllReadyH.cons rfl (fun K hK => ?_) AllReadyH.nil)
        · rw [if_pos (by rfl)]
          go_simp
          go_fit (src_n B g 4 _ (by omega) hd0.src)
          rintro e W4 ⟨_, rfl, ⟨r4, rfl, ha4, hb4⟩, hS4, hg4⟩
          replace hd0 := hd0.draw hS4 hg4
          have hr4 : r4 ≤ 3 := by omega
          refine hK.out _ _ (hd0.bx 1 (show 1 < 2 by decide)) (fun hHeld => ?_)
          clear hK K
          (try simp only [Act.put, List.setIfInBounds_toArray, List.set_cons_zero, List.set_cons_succ])
          refine takeQ (i := 3) (k := 18) (v := .int .i64 (1 + r4)) rfl (by rfl) (by kernel_rfl) (by kernel_rfl) (by kernel_rfl) (fun _ _ _ h => h) (by rfl) ?_ hHeld ?_
          · intro w1 hSw; go_simp; exact IntWalk.i64_in _ (by omega)
          (try simp only [Act.put, List.setIfInBounds_toArray, List.set_cons_zero, List.set_cons_succ])
          refine wpAnyH_ready (rs := [4, 5]) (by kernel_rfl) (by simp) ?_
          refine AllReadyH.cons rfl (fun K hK => ?_) (AllReadyH.cons rfl (fun K hK => ?_) AllReadyH.nil)
          · rw [if_pos (by rfl)]
            go_simp
            go_fit (spec_say h (1 + r4) _)
            rintro e W5 ⟨⟨p, k, rfl, hv⟩, hb5⟩
            replace hd0 := hd0.on hb5
            refine hK.out _ _ (hd0.bx 1 (show 1 < 2 by decide)) (fun hHeld => ?_)
            clear hK K
            (try simp only [Act.put, List.setIfInBounds_toArray, List.set_cons_zero, List.set_cons_succ])
            refine wpAnyH_ready (rs := [5]) (by kernel_rfl) (by simp) ?_
            refine AllReadyH.cons rfl (fun K hK => ?_) AllReadyH.nil
            rw [if_pos (by rfl)]
            go_simp
            have hz := Arr.fresh W5 29 hoZ
            have hgz : w.heap.size + 2 ≤ W5.heap.size := arr_ltH (show Arr W5 (w.heap.size + 1) _ _ from hd0.bx 1 (show 1 < 2 by decide))
            replace hd0 := hd0.on ((Below.refl _ W5).alloc (Nat.le_refl _) (.cells #[.int .i64 0, .int .i64 0, .int .i64 0, .int .i64 0, .int .i64 0, .slice none 0 0, .int .i64 0] 29))
            refine hK.out _ _ (hd0.bx 1 (show 1 < 2 by decide)) (fun hHeld => ?_)
            clear hK K
            (try simp only [Act.put, List.setIfInBounds_toArray, List.set_cons_zero, List.set_cons_succ])
            refine wpAnyH_ready (rs := [6]) (by kernel_rfl) (by simp) ?_
            refine AllReadyH.cons rfl (fun K hK => ?_) AllReadyH.nil
            rw [if_pos (by rfl)]
            refine wp_store_row 29 _ _ rfl W5.heap.size _ rfl rfl 29 _ hz (by kernel_rfl) (by rfl) (by kernel_rfl) ?_
            have hF := setRow_heap _ _ _ (hoC (sayR h (1 + r4)).h p (sayR h (1 + r4)).s.length k (sayR h (1 + r4)).c).toArray _ _ hz
            replace hd0 := hd0.rowfar hgz (hoC (sayR h (1 + r4)).h p (sayR h (1 + r4)).s.length k (sayR h (1 + r4)).c).toArray
            refine hK.out _ _ (hd0.bx 1 (show 1 < 2 by decide)) (fun hHeld => ?_)
            clear hK K
            (try simp only [Act.put, List.setIfInBounds_toArray, List.set_cons_zero, List.set_cons_succ])
            refine wpAnyH_done (by kernel_rfl) ?_ _
            exact ⟨⟨hd0, _, p, _, k, _, _, rfl, hgz, hF⟩, by simp only [putAll, Act.put, List.setIfInBounds_toArray, List.set_cons_zero, List.set_cons_succ]; rfl⟩
          · rw [if_pos (by rfl)]
            go_simp
            have hz := Arr.fresh W4 29 hoZ
            have hgz : w.heap.size + 2 ≤ W4.heap.size := arr_ltH (show Arr W4 (w.heap.size + 1) _ _ from hd0.bx 1 (show 1 < 2 by decide))
            replace hd0 := hd0.on ((Below.refl _ W4).alloc (Nat.le_refl _) (.cells #[.int .i64 0, .int .i64 0, .int .i64 0, .int .i64 0, .int .i64 0, .slice none 0 0, .int .i64 0] 29))
            refine hK.out _ _ (hd0.bx 1 (show 1 < 2 by decide)) (fun hHeld => ?_)
            clear hK K
            (try simp only [Act.put, List.setIfInBounds_toArray, List.set_cons_zero, List.set_cons_succ])
            refine wpAnyH_ready (rs := [4]) (by kernel_rfl) (by simp) ?_
            refine AllReadyH.cons rfl (fun K hK => ?_) AllReadyH.nil
            rw [if_pos (by rfl)]
            go_simp
            go_fit (spec_say h (1 + r4) _)
            rintro e W5 ⟨⟨p, k, rfl, hv⟩, hb5⟩
            replace hd0 := hd0.on hb5
            replace hz := arr_belowH2 hz hb5
            refine hK.out _ _ (hd0.bx 1 (show 1 < 2 by decide)) (fun hHeld => ?_)
            clear hK K
            (try simp only [Act.put, List.setIfInBounds_toArray, List.set_cons_zero, List.set_cons_succ])
            refine wpAnyH_ready (rs := [6]) (by kernel_rfl) (by simp) ?_
            refine AllReadyH.cons rfl (fun K hK => ?_) AllReadyH.nil
            rw [if_pos (by rfl)]
            refine wp_store_row 29 _ _ rfl W4.heap.size _ rfl rfl 29 _ hz (by kernel_rfl) (by rfl) (by kernel_rfl) ?_
            have hF := setRow_heap _ _ _ (hoC (sayR h (1 + r4)).h p (sayR h (1 + r4)).s.length k (sayR h (1 + r4)).c).toArray _ _ hz
            replace hd0 := hd0.rowfar hgz (hoC (sayR h (1 + r4)).h p (sayR h (1 + r4)).s.length k (sayR h (1 + r4)).c).toArray
            refine hK.out _ _ (hd0.bx 1 (show 1 < 2 by decide)) (fun hHeld => ?_)
            clear hK K
            (try simp only [Act.put, List.setIfInBounds_toArray, List.set_cons_zero, List.set_cons_succ])
            refine wpAnyH_done (by kernel_rfl) ?_ _
            exact ⟨⟨hd0, _, p, _, k, _, _, rfl, hgz, hF⟩, by simp only [putAll, Act.put, List.setIfInBounds_toArray, List.set_cons_zero, List.set_cons_succ]; rfl⟩
        · rw [if_pos (by rfl)]
          go_simp
          have hz := Arr.fresh Wd 29 hoZ
          have hgz : w.heap.size + 2 ≤ Wd.heap.size := arr_ltH (show Arr Wd (w.heap.size + 1) _ _ from hd0.bx 1 (show 1 < 2 by decide))
          replace hd0 := hd0.on ((Below.refl _ Wd).alloc (Nat.le_refl _) (.cells #[.int .i64 0, .int .i64 0, .int .i64 0, .int .i64 0, .int .i64 0, .slice none 0 0, .int .i64 0] 29))
          refine hK.out _ _ (hd0.bx 1 (show 1 < 2 by decide)) (fun hHeld => ?_)
          clear hK K
          (try simp only [Act.put, List.setIfInBounds_toArray, List.set_cons_zero, List.set_cons_succ])
          refine wpAnyH_ready (rs := [2]) (by kernel_rfl) (by simp) ?_
          refine AllReadyH.cons rfl (fun K hK => ?_) AllReadyH.nil
          rw [if_pos (by rfl)]
          go_simp
          go_fit (src_n B g 4 _ (by omega) hd0.src)
          rintro e W4 ⟨_, rfl, ⟨r4, rfl, ha4, hb4⟩, hS4, hg4⟩
          replace hd0 := hd0.draw hS4 hg4
          have hr4 : r4 ≤ 3 := by omega
          replace hz := arr_src hz hg4 (by have := hd0.lt; omega)
          refine hK.out _ _ (hd0.bx 1 (show 1 < 2 by decide)) (fun hHeld => ?_)
          clear hK K
          (try simp only [Act.put, List.setIfInBounds_toArray, List.set_cons_zero, List.set_cons_succ])
          refine takeQ (i := 3) (k := 18) (v := .int .i64 (1 + r4)) rfl (by rfl) (by kernel_rfl) (by kernel_rfl) (by kernel_rfl) (fun _ _ _ h => h) (by rfl) ?_ hHeld ?_
          · intro w1 hSw; go_simp; exact IntWalk.i64_in _ (by omega)
          (try simp only [Act.put, List.setIfInBounds_toArray, List.set_cons_zero, List.set_cons_succ])
          refine wpAnyH_ready (rs := [4]) (by kernel_rfl) (by simp) ?_
          refine AllReadyH.cons rfl (fun K hK => ?_) AllReadyH.nil
          rw [if_pos (by rfl)]
          go_simp
          go_fit (spec_say h (1 + r4) _)
          rintro e W5 ⟨⟨p, k, rfl, hv⟩, hb5⟩
          replace hd0 := hd0.on hb5
          replace hz := arr_belowH2 hz hb5
          refine hK.out _ _ (hd0.bx 1 (show 1 < 2 by decide)) (fun hHeld => ?_)
          clear hK K
          (try simp only [Act.put, List.setIfInBounds_toArray, List.set_cons_zero, List.set_cons_succ])
          refine wpAnyH_ready (rs := [6]) (by kernel_rfl) (by simp) ?_
          refine AllReadyH.cons rfl (fun K hK => ?_) AllReadyH.nil
          rw [if_pos (by rfl)]
          refine wp_store_row 29 _ _ rfl Wd.heap.size _ rfl rfl 29 _ hz (by kernel_rfl) (by rfl) (by kernel_rfl) ?_
          have hF := setRow_heap _ _ _ (hoC (sayR h (1 + r4)).h p (sayR h (1 + r4)).s.length k (sayR h (1 + r4)).c).toArray _ _ hz
          replace hd0 := hd0.rowfar hgz (hoC (sayR h (1 + r4)).h p (sayR h (1 + r4)).s.length k (sayR h (1 + r4)).c).toArray
          refine hK.out _ _ (hd0.bx 1 (show 1 < 2 by decide)) (fun hHeld => ?_)
          clear hK K
          (try simp only [Act.put, List.setIfInBounds_toArray, List.set_cons_zero, List.set_cons_succ])
          refine wpAnyH_done (by kernel_rfl) ?_ _
          exact ⟨⟨hd0, _, p, _, k, _, _, rfl, hgz, hF⟩, by simp only [putAll, Act.put, List.setIfInBounds_toArray, List.set_cons_zero, List.set_cons_succ]; rfl⟩
    · go_wp2_with fail
      refine (src_one B g 15 _ (by omega) HDr.out.src).mono ?_
      rintro e w2 ⟨_, rfl, ⟨b, rfl⟩, hS2, hg2⟩
      have HD2 := Lib.hid (HDr.out.draw hS2 hg2)
      clear hS2 hg2
      obtain ⟨⟨c0, c1, c2, c3, c4⟩, f0, f1, f2, f3, f4⟩ := hf_cells (b := w.heap.size + 1) (h := h) (HD2.out.bx 1 (show 1 < 2 by decide))
      cases b
      · go_wp2_with (refine wpList_store_row rfl 24 _ _ rfl w.heap.size _ rfl rfl 24 _ (HD2.out.bx 0 (show 0 < 2 by decide)) (by kernel_rfl) (by rfl) (by kernel_rfl) ?_)
        have HY := HD2.out.row 0 (show 0 < 2 by decide) (hfC h)
        exact bodyPost_ret (v := hfL h) (results_cell_row (P := Try.prog) Try.results36 _ _ w.heap.size 24 _ (0, 0) _ rfl (HY.bx 0 (show 0 < 2 by decide)) Try.underlying24 rfl (by kernel_rfl)) rfl ⟨⟨_, rfl⟩, HY.src, HY.gr⟩
      · clear c0 c1 c2 c3 c4 f0 f1 f2 f3 f4
        go_wp2_with fail
        refine (src_n B g 4 _ (by omega) (HD2.out.src)).mono ?_
        rintro e w3 ⟨_, rfl, ⟨r3, rfl, h30, h31⟩, hS3, hg3⟩
        have HD3 := Lib.hid (HD2.out.draw hS3 hg3)
        clear hS3 hg3
        have hr3 : r3 = 0 ∨ r3 = 1 ∨ r3 = 2 ∨ r3 = 3 := by omega
        rcases hr3 with rfl | rfl | rfl | rfl
        · go_wp2_with fail
          refine (src_n B g 3 _ (by omega) (srcH_on HD3.out.src ((Below.refl _ w3).alloc (Nat.le_refl _) (.cells #[.int .i64 (-1), .int .i64 1000000000, .int .i64 1000000001] 2)))).mono ?_
          rintro e w4 ⟨_, rfl, ⟨r4, rfl, h40, h41⟩, hS4, hg4⟩
          have HD4 := Lib.hid ((HD3.out.on ((Below.refl _ w3).alloc (Nat.le_refl _) (.cells #[.int .i64 (-1), .int .i64 1000000000, .int .i64 1000000001] 2))).draw hS4 hg4)
          have hs := arr_src (Arr.fresh w3 2 [.int .i64 (-1), .int .i64 1000000000, .int .i64 1000000001]) hg4 (by have := HD3.out.gr.size; omega)
          obtain ⟨R4, rfl⟩ : ∃ R : Nat, r4 = R := ⟨r4.toNat, by omega⟩
          obtain ⟨z, hcz⟩ := three_at hs (i := R4) (by omega)
          have hR5 : (R4 : Int) < 3 := by omega
          clear hS4 hg4 hs
          obtain ⟨⟨c0, c1, c2, c3, c4⟩, f0, f1, f2, f3, f4⟩ := hf_cells (b := w.heap.size + 1) (h := h) (HD4.out.bx 1 (show 1 < 2 by decide))
          go_wp2_with (refine wpList_store_row rfl 24 _ _ rfl w.heap.size _ rfl rfl 24 _ ((HD4.out.put 1 (show 1 < 2 by decide) 0 (.int .i64 z)).bx 0 (show 0 < 2 by decide)) (by kernel_rfl) (by rfl) (by kernel_rfl) ?_)
          have HY := (HD4.out.put 1 (show 1 < 2 by decide) 0 (.int .i64 z)).row 0 (show 0 < 2 by decide) (hfC ⟨z, h.o, h.t, h.i, h.f⟩)
          exact bodyPost_ret (v := hfL ⟨z, h.o, h.t, h.i, h.f⟩) (results_cell_row (P := Try.prog) Try.results36 _ _ w.heap.size 24 _ (0, 0) _ rfl (HY.bx 0 (show 0 < 2 by decide)) Try.underlying24 rfl (by kernel_rfl)) rfl ⟨⟨_, rfl⟩, HY.src, HY.gr⟩
        · go_wp2_with fail
          refine (src_n B g 4 _ (by omega) (HD3.out.src)).mono ?_
          rintro e w4 ⟨_, rfl, ⟨z, rfl, h40, h41⟩, hS4, hg4⟩
          have HD4 := Lib.hid (HD3.out.draw hS4 hg4)
          clear hS4 hg4
          obtain ⟨⟨c0, c1, c2, c3, c4⟩, f0, f1, f2, f3, f4⟩ := hf_cells (b := w.heap.size + 1) (h := h) (HD4.out.bx 1 (show 1 < 2 by decide))
          go_wp2_with (refine wpList_store_row rfl 24 _ _ rfl w.heap.size _ rfl rfl 24 _ ((HD4.out.put 1 (show 1 < 2 by decide) 2 (.int .i64 z)).bx 0 (show 0 < 2 by decide)) (by kernel_rfl) (by rfl) (by kernel_rfl) ?_)
          have HY := (HD4.out.put 1 (show 1 < 2 by decide) 2 (.int .i64 z)).row 0 (show 0 < 2 by decide) (hfC ⟨h.n, h.o, z, h.i, h.f⟩)
          exact bodyPost_ret (v := hfL ⟨h.n, h.o, z, h.i, h.f⟩) (results_cell_row (P := Try.prog) Try.results36 _ _ w.heap.size 24 _ (0, 0) _ rfl (HY.bx 0 (show 0 < 2 by decide)) Try.underlying24 rfl (by kernel_rfl)) rfl ⟨⟨_, rfl⟩, HY.src, HY.gr⟩
        · go_wp2_with fail
          refine (src_n B g 4 _ (by omega) (HD3.out.src)).mono ?_
          rintro e w4 ⟨_, rfl, ⟨z, rfl, h40, h41⟩, hS4, hg4⟩
          have HD4 := Lib.hid (HD3.out.draw hS4 hg4)
          clear hS4 hg4
          obtain ⟨⟨c0, c1, c2, c3, c4⟩, f0, f1, f2, f3, f4⟩ := hf_cells (b := w.heap.size + 1) (h := h) (HD4.out.bx 1 (show 1 < 2 by decide))
          go_wp2_with (refine wpList_store_row rfl 24 _ _ rfl w.heap.size _ rfl rfl 24 _ ((HD4.out.put 1 (show 1 < 2 by decide) 3 (.int .i64 z)).bx 0 (show 0 < 2 by decide)) (by kernel_rfl) (by rfl) (by kernel_rfl) ?_)
          have HY := (HD4.out.put 1 (show 1 < 2 by decide) 3 (.int .i64 z)).row 0 (show 0 < 2 by decide) (hfC ⟨h.n, h.o, h.t, z, h.f⟩)
          exact bodyPost_ret (v := hfL ⟨h.n, h.o, h.t, z, h.f⟩) (results_cell_row (P := Try.prog) Try.results36 _ _ w.heap.size 24 _ (0, 0) _ rfl (HY.bx 0 (show 0 < 2 by decide)) Try.underlying24 rfl (by kernel_rfl)) rfl ⟨⟨_, rfl⟩, HY.src, HY.gr⟩
        · go_wp2_with fail
          refine (src_edge B g _ HD3.out.src HD3.out.src.lt).mono ?_
          rintro e w4 ⟨_, rfl, ⟨z, rfl, h40, h41⟩, hS4, hg4⟩
          have HD4 := Lib.hid (HD3.out.draw hS4 hg4)
          clear hS4 hg4
          obtain ⟨⟨c0, c1, c2, c3, c4⟩, f0, f1, f2, f3, f4⟩ := hf_cells (b := w.heap.size + 1) (h := h) (HD4.out.bx 1 (show 1 < 2 by decide))
          go_wp2_with (refine wpList_store_row rfl 24 _ _ rfl w.heap.size _ rfl rfl 24 _ ((HD4.out.put 1 (show 1 < 2 by decide) 4 (.int .i64 z)).bx 0 (show 0 < 2 by decide)) (by kernel_rfl) (by rfl) (by kernel_rfl) ?_)
          have HY := (HD4.out.put 1 (show 1 < 2 by decide) 4 (.int .i64 z)).row 0 (show 0 < 2 by decide) (hfC ⟨h.n, h.o, h.t, h.i, z⟩)
          exact bodyPost_ret (v := hfL ⟨h.n, h.o, h.t, h.i, z⟩) (results_cell_row (P := Try.prog) Try.results36 _ _ w.heap.size 24 _ (0, 0) _ rfl (HY.bx 0 (show 0 < 2 by decide)) Try.underlying24 rfl (by kernel_rfl)) rfl ⟨⟨_, rfl⟩, HY.src, HY.gr⟩
end Go.Proofs.Ytgfpcmfcnphalaa
