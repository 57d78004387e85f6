/- The halves that FnHalf and FnShow draw, with what is drawn beside them. -/
import Derived.Test.YtgfpcmfcnphalaaHfDraw2
namespace Go.Proofs.Ytgfpcmfcnphalaa
set_option linter.unusedSimpArgs false
set_option linter.unusedVariables false
open Go.RowKit Go.Joins

/-- Boxes that a call has made first, its source, other boxes. -/
structure HfE (w W : World) (g : Nat) (l : List (Nat × Nat × List Value)) : Prop where
  src : Src W g g
  bl : Below w.heap.size w W
  lt : w.heap.size ≤ g
  bx : ∀ x ∈ l, w.heap.size ≤ x.1 ∧ x.1 ≠ g ∧ Arr W x.1 x.2.1 x.2.2
theorem HfE.on {w W W2 : World} {g : Nat} {l : List (Nat × Nat × List Value)} (h : HfE w W g l) (hb : Below W.heap.size W W2) : HfE w W2 g l :=
  ⟨srcH_on h.src hb, h.bl.trans (hb.mono h.bl.size), h.lt, fun x hx => ⟨(h.bx x hx).1, (h.bx x hx).2.1, arr_belowH2 (h.bx x hx).2.2 hb⟩⟩
theorem HfE.draw {w W W2 : World} {g : Nat} {l : List (Nat × Nat × List Value)} (h : HfE w W g l) (hS : Src W2 g g) (hg : W.grownBy W2 (some g)) : HfE w W2 g l :=
  ⟨hS, Below.grown h.bl hg h.bl.size (fun k e => by injection e with e; have := h.lt; omega), h.lt, fun x hx => ⟨(h.bx x hx).1, (h.bx x hx).2.1, arr_src (h.bx x hx).2.2 hg (h.bx x hx).2.1⟩⟩
theorem HfE.new {w W : World} {g : Nat} {l : List (Nat × Nat × List Value)} (h : HfE w W g l) (t : Nat) (cs : List Value) : HfE w (W.alloc (.cells cs.toArray t)) g ((W.heap.size, t, cs) :: l) := by
  have h2 := h.on ((Below.refl _ W).alloc (Nat.le_refl _) (.cells cs.toArray t))
  refine ⟨h2.src, h2.bl, h2.lt, fun x hx => ?_⟩
  rcases List.mem_cons.1 hx with rfl | hx
  · exact ⟨h.bl.size, by have := h.src.lt; show W.heap.size ≠ g; omega, Arr.fresh W t cs⟩
  · exact h2.bx x hx
theorem hfe_start {w W W2 : World} {t : Nat} {cs : List Value} (hA : Arr W w.heap.size t cs) (hb : Below w.heap.size w W) (hS : Src W2 W.heap.size W.heap.size) (hb2 : Below W.heap.size W W2) : HfE w W2 W.heap.size [(w.heap.size, t, cs)] := by
  have := arr_ltH hA
  refine ⟨hS, hb.trans (hb2.mono hb.size), hb.size, fun x hx => ?_⟩
  obtain rfl := List.mem_singleton.1 hx
  exact ⟨Nat.le_refl _, by show w.heap.size ≠ W.heap.size; omega, arr_belowH2 hA hb2⟩
theorem HfE.row {w W : World} {g : Nat} {l : List (Nat × Nat × List Value)} (h : HfE w W g l) {b t : Nat} {cs : List Value} (hx : (b, t, cs) ∈ l) (ds : List Value) : Arr (W.setRow b ds.toArray) b t ds ∧ Below w.heap.size w (W.setRow b ds.toArray) :=
  ⟨setRow_heap W b _ _ _ _ (h.bx _ hx).2.2, below_setRow h.bl (h.bx _ hx).1 _⟩
set_option maxHeartbeats 1000000 in
theorem draw_drop (a : Option Addr) (len cap : Nat) (w : World) (hlen : len ≤ 1048576) (hrow : SrcRow w w.heap.size a len) : Calls Try.prog 23 #[.slice a len cap] w fun e w' => (∃ h, e = .returned (hfL h)) ∧ Below w.heap.size w w' := by
  have HR := Lib.hid hrow
  clear hrow
  go_enter Try.func23, Try.ntmps23
  go_wp2_with fail
  refine (src_source a len cap _ hlen (HR.out.lift ((Below.refl _ _).alloc (Nat.le_refl _) _) (by simp))).mono ?_
  rintro e w1 ⟨rfl, hS1, hb1⟩
  have HE1 := Lib.hid (hfe_start (Arr.fresh w 24 (hfC hf0)) ((Below.refl _ _).alloc (Nat.le_refl _) _) hS1 hb1)
  have hsz : (w.alloc (.cells (hfC hf0).toArray 24)).heap.size = w.heap.size + 1 := World.size_alloc ..
  clear hS1 hb1
  rw [hsz] at HE1
  rw [World.size_alloc]
  go_wp2_with (first
    | (go_at_call 36; go_fit (draw_half (w.heap.size + 1) (w.heap.size + 1) _ HE1.out.src); rintro e w2 ⟨⟨h, rfl⟩, hS2, hg2⟩; have HE2 := Lib.hid (HE1.out.draw hS2 hg2); clear hS2 hg2)
    | (refine wpList_store_row rfl 24 _ _ rfl w.heap.size _ rfl rfl 24 _ (HE2.out.bx _ (List.mem_singleton.2 rfl)).2.2 (by kernel_rfl) (by rfl) (by kernel_rfl) ?_))
  have HY := HE2.out.row (List.mem_singleton.2 rfl) (hfC h)
  exact bodyPost_ret (v := hfL h) (results_cell_row (P := Try.prog) Try.results23 _ _ w.heap.size 24 _ (0, 0) _ rfl HY.1 Try.underlying24 rfl (by kernel_rfl)) rfl ⟨⟨_, rfl⟩, HY.2⟩
theorem hfe_start2 {w W W2 : World} {t u : Nat} {cs ds : List Value} (hA : Arr W w.heap.size t cs) (hB : Arr W (w.heap.size + 1) u ds) (hb : Below w.heap.size w W) (hS : Src W2 W.heap.size W.heap.size) (hb2 : Below W.heap.size W W2) : HfE w W2 W.heap.size [(w.heap.size, t, cs), (w.heap.size + 1, u, ds)] := by
  have h1 := arr_ltH hA
  have h2 := arr_ltH hB
  refine ⟨hS, hb.trans (hb2.mono hb.size), hb.size, fun x hx => ?_⟩
  rcases List.mem_cons.1 hx with rfl | hx
  · exact ⟨Nat.le_refl _, by show w.heap.size ≠ W.heap.size; omega, arr_belowH2 hA hb2⟩
  · obtain rfl := List.mem_singleton.1 hx
    exact ⟨Nat.le_succ _, by show w.heap.size + 1 ≠ W.heap.size; omega, arr_belowH2 hB hb2⟩
set_option maxHeartbeats 1000000 in
theorem draw_say (a : Option Addr) (len cap : Nat) (w : World) (hlen : len ≤ 1048576) (hrow : SrcRow w w.heap.size a len) : Calls Try.prog 12 #[.slice a len cap] w fun e w' => (∃ h k, e = .returned (.tuple #[hfL h, .int .i64 k])) ∧ Below w.heap.size w w' := by
  have HR := Lib.hid hrow
  clear hrow
  go_enter Try.func12, Try.ntmps12
  go_wp2_with fail
  refine (src_source a len cap _ hlen (HR.out.lift ((Below.refl _ _).alloc (Nat.le_refl _) _) (by simp))).mono ?_
  rintro e w1 ⟨rfl, hS1, hb1⟩
  have HE1 := Lib.hid (hfe_start (Arr.fresh w 24 (hfC hf0)) ((Below.refl _ _).alloc (Nat.le_refl _) _) hS1 hb1)
  have hsz : (w.alloc (.cells (hfC hf0).toArray 24)).heap.size = w.heap.size + 1 := World.size_alloc ..
  clear hS1 hb1
  rw [hsz] at HE1
  rw [World.size_alloc]
  go_wp2_with (first
    | (go_at_call 36; go_fit (draw_half (w.heap.size + 1) (w.heap.size + 1) _ HE1.out.src); rintro e w2 ⟨⟨h, rfl⟩, hS2, hg2⟩; have HE2 := Lib.hid (HE1.out.draw hS2 hg2); clear hS2 hg2))
  have hd0 : HfE w (w2.alloc (.cells #[.int .i64 h.n, .int .i64 h.o, .int .i64 h.t, .int .i64 h.i, .int .i64 h.f] 24)).drew (w.heap.size + 1) _ := (HE2.out.new 24 (hfC h)).on (Below.refl _ _).drew
  refine wp_region_held_drew (S := fun W => Arr W w2.heap.size 24 (hfC h)) (by kernel_rfl) (hd0.bx _ (List.mem_cons_self ..)).2.2 (fun hHeld => ?_)
  generalize (w2.alloc (.cells #[.int .i64 h.n, .int .i64 h.o, .int .i64 h.t, .int .i64 h.i, .int .i64 h.f] 24)).drew = Wd at hHeld hd0 ⊢
  refine takeQ (i := 0) (k := 10) (v := hfL h) rfl (by rfl) (by kernel_rfl) (by kernel_rfl) (by kernel_rfl) (fun _ _ _ h => h) (by rfl) ?_ hHeld ?_
  · intro w1 hSw; obtain ⟨⟨m0, m1, m2, m3, m4⟩, _⟩ := hf_cells (h := h) hSw; go_simp
  (try simp only [Act.put, List.setIfInBounds_toArray, List.set_cons_zero, List.set_cons_succ])
  refine takeQ (i := 1) (k := 11) (v := .pointer (some ⟨w.heap.size + 1, 0, none⟩)) rfl (by rfl) (by kernel_rfl) (by kernel_rfl) (by kernel_rfl) (fun _ _ _ h => h) (by rfl) ?_ hHeld ?_
  · intro w1 hSw; go_simp
  (try simp only [Act.put, List.setIfInBounds_toArray, List.set_cons_zero, List.set_cons_succ])
  refine wpAnyH_ready (rs := [2]) (by kernel_rfl) (by simp) ?_
  refine AllReadyH.cons rfl (fun K hK => ?_) AllReadyH.nil
  rw [if_pos (by rfl)]
  go_simp
  go_fit (src_n (w.heap.size + 1) (w.heap.size + 1) 6 _ (by omega) hd0.src)
  rintro e w3 ⟨_, rfl, ⟨r, rfl, ha, hb⟩, hS3, hg3⟩
  replace hd0 := hd0.draw hS3 hg3
  refine hK.out _ _ ((hd0.bx _ (List.mem_cons_self ..)).2.2) (fun hHeld => ?_)
  clear hK K
  (try simp only [Act.put, List.setIfInBounds_toArray, List.set_cons_zero, List.set_cons_succ])
  refine wpAnyH_ready (rs := [3]) (by kernel_rfl) (by simp) ?_
  refine AllReadyH.cons rfl (fun K hK => ?_) AllReadyH.nil
  rw [if_pos (by rfl)]
  refine wp_store_row 24 _ _ rfl w.heap.size _ rfl rfl 24 _ (hd0.bx (w.heap.size, 24, hfC hf0) (List.mem_cons_of_mem _ (List.mem_cons_self ..))).2.2 (by kernel_rfl) (by rfl) (by kernel_rfl) ?_
  obtain ⟨hA, hB⟩ := hd0.row (b := w.heap.size) (t := 24) (cs := hfC hf0) (List.mem_cons_of_mem _ (List.mem_cons_self ..)) (hfC h)
  have hz2 : w.heap.size < w2.heap.size := arr_ltH (HE2.out.bx _ (List.mem_cons_self ..)).2.2
  refine hK.out _ _ ((setRow_other w3 w.heap.size w2.heap.size _ (by omega)).trans hHeld) (fun hHeld => ?_)
  clear hK K
  (try simp only [Act.put, List.setIfInBounds_toArray, List.set_cons_zero, List.set_cons_succ])
  refine wpAnyH_ready (rs := [4]) (by kernel_rfl) (by simp) ?_
  refine AllReadyH.cons rfl (fun K hK => ?_) AllReadyH.nil
  rw [if_pos (by rfl)]
  go_simp
  refine hK.out _ _ (hHeld) (fun hHeld => ?_)
  clear hK K
  (try simp only [Act.put, List.setIfInBounds_toArray, List.set_cons_zero, List.set_cons_succ])
  refine wpAnyH_done (by kernel_rfl) ?_ _
  have hW : (w3.setRow w.heap.size #[.int .i64 h.n, .int .i64 h.o, .int .i64 h.t, .int .i64 h.i, .int .i64 h.f]) = w3.setRow w.heap.size (hfC h).toArray := rfl
  rw [hW]
  generalize w3.setRow w.heap.size (hfC h).toArray = wf at hA hB ⊢
  obtain ⟨⟨c0, c1, c2, c3, c4⟩, _⟩ := hf_cells hA
  go_wp2
  exact bodyPost_ret (v := .tuple #[hfL h, .int .i64 r]) (by simp [results, Try.results12, go_sem, c0, c1, c2, c3, c4]) rfl ⟨⟨h, r, rfl⟩, hB⟩
end Go.Proofs.Ytgfpcmfcnphalaa
