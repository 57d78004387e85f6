/- spec.DrawHalfHear. -/
import Derived.Test.YtgfpcmfcnphalaaHfDraw3
namespace Go.Proofs.Ytgfpcmfcnphalaa
set_option linter.unusedSimpArgs false
set_option linter.unusedVariables false
open Go.RowKit Go.Joins

structure FinB (w W : World) (b5 b6 : Nat) (x : HfL) (k m : Int) : Prop where
  r0 : Arr W w.heap.size 24 (hfC hf0)
  r1 : Arr W (w.heap.size + 1) 32 sbZ
  h : Arr W b5 24 (hfC x)
  s : Arr W b6 32 [.int .i64 k, .int .i64 m]
  bl : Below w.heap.size w W
  l1 : w.heap.size + 2 ≤ b5
  l2 : w.heap.size + 2 ≤ b6
theorem finB {w W : World} {g b5 b6 : Nat} {x : HfL} {k m : Int} (h : HfE w W g [(b6, 32, [.int .i64 k, .int .i64 m]), (b5, 24, hfC x), (w.heap.size, 24, hfC hf0), (w.heap.size + 1, 32, sbZ)]) (h1 : w.heap.size + 2 ≤ b5) (h2 : w.heap.size + 2 ≤ b6) : FinB w W b5 b6 x k m :=
  ⟨(h.bx (w.heap.size, 24, hfC hf0) (by simp)).2.2, (h.bx (w.heap.size + 1, 32, sbZ) (by simp)).2.2, (h.bx (b5, 24, hfC x) (by simp)).2.2, (h.bx (b6, 32, [.int .i64 k, .int .i64 m]) (by simp)).2.2, h.bl, h1, h2⟩
theorem FinB.sub {w W : World} {b5 b6 : Nat} {x : HfL} {k m k2 m2 : Int} (h : FinB w W b5 b6 x k m) (hne : b5 ≠ b6) : FinB w (W.setRow b6 #[.int .i64 k2, .int .i64 m2]) b5 b6 x k2 m2 := by
  have h1 := h.l1
  have h2 := h.l2
  exact ⟨(setRow_other W b6 _ _ (by omega)).trans h.r0, (setRow_other W b6 _ _ (by omega)).trans h.r1, (setRow_other W b6 _ _ hne).trans h.h, setRow_heap W b6 _ _ _ _ h.s, below_setRow h.bl (by omega) _, h1, h2⟩
theorem FinB.drew {w W : World} {b5 b6 : Nat} {x : HfL} {k m : Int} (h : FinB w W b5 b6 x k m) : FinB w W.drew b5 b6 x k m := ⟨h.r0, h.r1, h.h, h.s, h.bl.drew, h.l1, h.l2⟩
set_option maxHeartbeats 4000000 in
theorem draw_hear (a : Option Addr) (len cap : Nat) (w : World) (hlen : len ≤ 1048576) (hrow : SrcRow w w.heap.size a len) : Calls Try.prog 14 #[.slice a len cap] w fun e w' => (∃ h x, e = .returned (.tuple #[hfL h, sbL x])) ∧ Below w.heap.size w w' := by
  have HR := Lib.hid hrow
  clear hrow
  have hb0 := bx2 w 24 32 (hfC hf0) sbZ
  go_enter Try.func14, Try.ntmps14
  go_wp2_with fail
  refine (src_source a len cap _ hlen (HR.out.lift hb0.1 (by simp; omega))).mono ?_
  rintro e w1 ⟨rfl, hS1, hb1⟩
  have HE1 := Lib.hid (hfe_start2 (W := (w.alloc (.cells (hfC hf0).toArray 24)).alloc (.cells sbZ.toArray 32)) (hb0.2 0 (show 0 < 2 by decide)) (hb0.2 1 (show 1 < 2 by decide)) hb0.1 hS1 hb1)
  have hsz : ((w.alloc (.cells (hfC hf0).toArray 24)).alloc (.cells sbZ.toArray 32)).heap.size = w.heap.size + 1 + 1 := (World.size_alloc ..).trans (congrArg (· + 1) (World.size_alloc ..))
  clear hS1 hb1 hb0
  rw [hsz] at HE1
  rw [World.size_alloc, World.size_alloc]
  go_wp2_with (first
    | (go_at_call 41; have _ := HE3; go_fit (src_one (w.heap.size + 1 + 1) (w.heap.size + 1 + 1) 10 _ (by omega) (HE3.out.new 32 [.int .i64 x.k, .int .i64 x.n]).src); rintro e w4 ⟨_, rfl, ⟨b, rfl⟩, hS4, hg4⟩; have HE4 := Lib.hid ((HE3.out.new 32 [.int .i64 x.k, .int .i64 x.n]).draw hS4 hg4); clear hS4 hg4; cases b)
    | (go_at_call 40; have _ := HE2; go_fit (draw_sub (w.heap.size + 1 + 1) (w.heap.size + 1 + 1) h _ (HE2.out.new 24 (hfC h)).src); rintro e w3 ⟨⟨x, rfl⟩, hS3, hg3⟩; have HE3 := Lib.hid ((HE2.out.new 24 (hfC h)).draw hS3 hg3); have hz3 : w2.heap.size < w3.heap.size := Nat.lt_of_lt_of_le (by simp) hg3.size; clear hS3 hg3)
    | (go_at_call 36; go_fit (draw_half (w.heap.size + 1 + 1) (w.heap.size + 1 + 1) _ HE1.out.src); rintro e w2 ⟨⟨h, rfl⟩, hS2, hg2⟩; have HE2 := Lib.hid (HE1.out.draw hS2 hg2); have hz2 : w.heap.size + 2 ≤ w2.heap.size := Nat.le_of_lt (HE2.out.src.lt); clear hS2 hg2)
    | (go_at_call 37; have _ := HE5; go_fit (src_n (w.heap.size + 1 + 1) (w.heap.size + 1 + 1) 3 _ (by omega) (HE5.out.on ((Below.refl _ w5).alloc (Nat.le_refl _) (.cells #[.int .i64 0, .int .i64 1000000000, .int .i64 1000000001] 2))).src); rintro e w6 ⟨_, rfl, ⟨r6, rfl, h60, h61⟩, hS6, hg6⟩; have HE6 := Lib.hid ((HE5.out.on ((Below.refl _ w5).alloc (Nat.le_refl _) (.cells #[.int .i64 0, .int .i64 1000000000, .int .i64 1000000001] 2))).draw hS6 hg6); have hs := arr_src (Arr.fresh w5 2 [.int .i64 0, .int .i64 1000000000, .int .i64 1000000001]) hg6 (by have := HE5.out.src.lt; omega); (obtain ⟨R6, rfl⟩ : ∃ R : Nat, r6 = R := ⟨r6.toNat, by omega⟩); (obtain ⟨z, hcz⟩ := three_at hs (i := R6) (by omega)); have hR6 : (R6 : Int) < 3 := (by omega); clear hS6 hg6 hs)
    | (go_at_call 37; have _ := HE4; go_fit (src_n (w.heap.size + 1 + 1) (w.heap.size + 1 + 1) 7 _ (by omega) HE4.out.src); rintro e w5 ⟨_, rfl, ⟨r5, rfl, h50, h51⟩, hS5, hg5⟩; have HE5 := Lib.hid (HE4.out.draw hS5 hg5); clear hS5 hg5)
    | (have _ := HE6; refine wpList_store_row rfl 32 _ _ rfl w3.heap.size _ rfl rfl 32 _ (HE6.out.bx (w3.heap.size, 32, [.int .i64 x.k, .int .i64 x.n]) (List.mem_cons_self ..)).2.2 (by kernel_rfl) (by rfl) (by kernel_rfl) ?_))
  · have hf0 : FinB w w4.drew w2.heap.size w3.heap.size h x.k x.n := (finB HE4.out hz2 (by omega)).drew
    refine wp_region_held_drew (S := fun W => Arr W w2.heap.size 24 (hfC h) ∧ Arr W w3.heap.size 32 [.int .i64 x.k, .int .i64 x.n]) (by kernel_rfl) ⟨hf0.h, hf0.s⟩ (fun hHeld => ?_)
    generalize w4.drew = Wd at hHeld hf0 ⊢
    refine takeQ (i := 0) (k := 24) (v := hfL h) rfl (by rfl) (by kernel_rfl) (by kernel_rfl) (by kernel_rfl) (fun _ _ _ h => h) (by rfl) ?_ hHeld ?_
    · intro w1 hSw; obtain ⟨⟨m0, m1, m2, m3, m4⟩, _⟩ := hf_cells (h := h) hSw.1; go_simp
    (try simp only [Act.put, List.setIfInBounds_toArray, List.set_cons_zero, List.set_cons_succ])
    refine takeQ (i := 1) (k := 25) (v := .agg #[.int .i64 x.k, .int .i64 x.n]) rfl (by rfl) (by kernel_rfl) (by kernel_rfl) (by kernel_rfl) (fun _ _ _ h => h) (by rfl) ?_ hHeld ?_
    · intro w1 hSw; obtain ⟨m0, m1⟩ := sb_cells hSw.2; go_simp
    (try simp only [Act.put, List.setIfInBounds_toArray, List.set_cons_zero, List.set_cons_succ])
    refine wpAnyH_ready (rs := [2]) (by kernel_rfl) (by simp) ?_
    refine AllReadyH.cons rfl (fun K hK => ?_) AllReadyH.nil
    rw [if_pos (by rfl)]
    refine wp_store_row 24 _ _ rfl w.heap.size _ rfl rfl 24 _ hf0.r0 (by kernel_rfl) (by rfl) (by kernel_rfl) ?_
    have hA := setRow_heap Wd w.heap.size _ (hfC h).toArray _ _ hf0.r0
    have hB : Arr (Wd.setRow w.heap.size (hfC h).toArray) (w.heap.size + 1) 32 sbZ := (setRow_other Wd w.heap.size (w.heap.size + 1) _ (by omega)).trans hf0.r1
    have hC := below_setRow hf0.bl (Nat.le_refl _) (hfC h).toArray
    refine hK.out _ _ (⟨(setRow_other Wd w.heap.size w2.heap.size _ (by have := hf0.l1; omega)).trans hf0.h, (setRow_other Wd w.heap.size w3.heap.size _ (by have := hf0.l2; omega)).trans hf0.s⟩) (fun hHeld => ?_)
    clear hK K
    (try simp only [Act.put, List.setIfInBounds_toArray, List.set_cons_zero, List.set_cons_succ])
    have hW : (Wd.setRow w.heap.size #[.int .i64 h.n, .int .i64 h.o, .int .i64 h.t, .int .i64 h.i, .int .i64 h.f]) = Wd.setRow w.heap.size (hfC h).toArray := rfl
    rw [hW] at hHeld ⊢
    have hl1 := hf0.l1
    have hl2 := hf0.l2
    generalize Wd.setRow w.heap.size (hfC h).toArray = We at hA hB hC hHeld ⊢
    refine wpAnyH_ready (rs := [3]) (by kernel_rfl) (by simp) ?_
    refine AllReadyH.cons rfl (fun K hK => ?_) AllReadyH.nil
    rw [if_pos (by rfl)]
    refine wp_store_row 32 _ _ rfl (w.heap.size + 1) _ rfl rfl 32 _ hB (by kernel_rfl) (by rfl) (by kernel_rfl) ?_
    have hD : Arr (We.setRow (w.heap.size + 1) #[.int .i64 x.k, .int .i64 x.n]) (w.heap.size + 1) 32 [.int .i64 x.k, .int .i64 x.n] := setRow_heap We (w.heap.size + 1) _ _ _ _ hB
    have hE : Arr (We.setRow (w.heap.size + 1) #[.int .i64 x.k, .int .i64 x.n]) w.heap.size 24 (hfC h) := (setRow_other We (w.heap.size + 1) w.heap.size _ (by omega)).trans hA
    have hF := below_setRow hC (Nat.le_succ w.heap.size) #[.int .i64 x.k, .int .i64 x.n]
    refine hK.out _ _ (⟨(setRow_other We (w.heap.size + 1) w2.heap.size _ (by omega)).trans hHeld.1, (setRow_other We (w.heap.size + 1) w3.heap.size _ (by omega)).trans hHeld.2⟩) (fun hHeld => ?_)
    clear hK K
    (try simp only [Act.put, List.setIfInBounds_toArray, List.set_cons_zero, List.set_cons_succ])
    refine wpAnyH_done (by kernel_rfl) ?_ _
    clear hHeld
    generalize We.setRow (w.heap.size + 1) #[.int .i64 x.k, .int .i64 x.n] = wf at hD hE hF ⊢
    obtain ⟨⟨c0, c1, c2, c3, c4⟩, _⟩ := hf_cells hE
    obtain ⟨s0, s1⟩ := sb_cells hD
    go_wp2
    exact bodyPost_ret (v := .tuple #[hfL h, .agg #[.int .i64 x.k, .int .i64 x.n]]) (by simp [results, Try.results14, go_sem, c0, c1, c2, c3, c4, s0, s1]) rfl ⟨⟨h, ⟨x.k, x.n⟩, rfl⟩, hF⟩
  · have hW6 := (finB HE6.out hz2 (by omega)).sub (k2 := r5) (m2 := z) (by omega)
    generalize w6.setRow w3.heap.size #[.int .i64 r5, .int .i64 z] = w7 at hW6 ⊢
    have hf0 : FinB w w7.drew w2.heap.size w3.heap.size h r5 z := hW6.drew
    refine wp_region_held_drew (S := fun W => Arr W w2.heap.size 24 (hfC h) ∧ Arr W w3.heap.size 32 [.int .i64 r5, .int .i64 z]) (by kernel_rfl) ⟨hf0.h, hf0.s⟩ (fun hHeld => ?_)
    generalize w7.drew = Wd at hHeld hf0 ⊢
    refine takeQ (i := 0) (k := 24) (v := hfL h) rfl (by rfl) (by kernel_rfl) (by kernel_rfl) (by kernel_rfl) (fun _ _ _ h => h) (by rfl) ?_ hHeld ?_
    · intro w1 hSw; obtain ⟨⟨m0, m1, m2, m3, m4⟩, _⟩ := hf_cells (h := h) hSw.1; go_simp
    (try simp only [Act.put, List.setIfInBounds_toArray, List.set_cons_zero, List.set_cons_succ])
    refine takeQ (i := 1) (k := 25) (v := .agg #[.int .i64 r5, .int .i64 z]) rfl (by rfl) (by kernel_rfl) (by kernel_rfl) (by kernel_rfl) (fun _ _ _ h => h) (by rfl) ?_ hHeld ?_
    · intro w1 hSw; obtain ⟨m0, m1⟩ := sb_cells hSw.2; go_simp
    (try simp only [Act.put, List.setIfInBounds_toArray, List.set_cons_zero, List.set_cons_succ])
    refine wpAnyH_ready (rs := [2]) (by kernel_rfl) (by simp) ?_
    refine AllReadyH.cons rfl (fun K hK => ?_) AllReadyH.nil
    rw [if_pos (by rfl)]
    refine wp_store_row 24 _ _ rfl w.heap.size _ rfl rfl 24 _ hf0.r0 (by kernel_rfl) (by rfl) (by kernel_rfl) ?_
    have hA := setRow_heap Wd w.heap.size _ (hfC h).toArray _ _ hf0.r0
    have hB : Arr (Wd.setRow w.heap.size (hfC h).toArray) (w.heap.size + 1) 32 sbZ := (setRow_other Wd w.heap.size (w.heap.size + 1) _ (by omega)).trans hf0.r1
    have hC := below_setRow hf0.bl (Nat.le_refl _) (hfC h).toArray
    refine hK.out _ _ (⟨(setRow_other Wd w.heap.size w2.heap.size _ (by have := hf0.l1; omega)).trans hf0.h, (setRow_other Wd w.heap.size w3.heap.size _ (by have := hf0.l2; omega)).trans hf0.s⟩) (fun hHeld => ?_)
    clear hK K
    (try simp only [Act.put, List.setIfInBounds_toArray, List.set_cons_zero, List.set_cons_succ])
    have hW : (Wd.setRow w.heap.size #[.int .i64 h.n, .int .i64 h.o, .int .i64 h.t, .int .i64 h.i, .int .i64 h.f]) = Wd.setRow w.heap.size (hfC h).toArray := rfl
    rw [hW] at hHeld ⊢
    have hl1 := hf0.l1
    have hl2 := hf0.l2
    generalize Wd.setRow w.heap.size (hfC h).toArray = We at hA hB hC hHeld ⊢
    refine wpAnyH_ready (rs := [3]) (by kernel_rfl) (by simp) ?_
    refine AllReadyH.cons rfl (fun K hK => ?_) AllReadyH.nil
    rw [if_pos (by rfl)]
    refine wp_store_row 32 _ _ rfl (w.heap.size + 1) _ rfl rfl 32 _ hB (by kernel_rfl) (by rfl) (by kernel_rfl) ?_
    have hD : Arr (We.setRow (w.heap.size + 1) #[.int .i64 r5, .int .i64 z]) (w.heap.size + 1) 32 [.int .i64 r5, .int .i64 z] := setRow_heap We (w.heap.size + 1) _ _ _ _ hB
    have hE : Arr (We.setRow (w.heap.size + 1) #[.int .i64 r5, .int .i64 z]) w.heap.size 24 (hfC h) := (setRow_other We (w.heap.size + 1) w.heap.size _ (by omega)).trans hA
    have hF := below_setRow hC (Nat.le_succ w.heap.size) #[.int .i64 r5, .int .i64 z]
    refine hK.out _ _ (⟨(setRow_other We (w.heap.size + 1) w2.heap.size _ (by omega)).trans hHeld.1, (setRow_other We (w.heap.size + 1) w3.heap.size _ (by omega)).trans hHeld.2⟩) (fun hHeld => ?_)
    clear hK K
    (try simp only [Act.put, List.setIfInBounds_toArray, List.set_cons_zero, List.set_cons_succ])
    refine wpAnyH_done (by kernel_rfl) ?_ _
    clear hHeld
    generalize We.setRow (w.heap.size + 1) #[.int .i64 r5, .int .i64 z] = wf at hD hE hF ⊢
    obtain ⟨⟨c0, c1, c2, c3, c4⟩, _⟩ := hf_cells hE
    obtain ⟨s0, s1⟩ := sb_cells hD
    go_wp2
    exact bodyPost_ret (v := .tuple #[hfL h, .agg #[.int .i64 r5, .int .i64 z]]) (by simp [results, Try.results14, go_sem, c0, c1, c2, c3, c4, s0, s1]) rfl ⟨⟨h, ⟨r5, z⟩, rfl⟩, hF⟩
end Go.Proofs.Ytgfpcmfcnphalaa
