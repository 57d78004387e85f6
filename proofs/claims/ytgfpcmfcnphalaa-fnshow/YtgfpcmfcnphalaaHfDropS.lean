/- spec.HalfDrop. -/
import Derived.Test.YtgfpcmfcnphalaaHfDropB
namespace Go.Proofs.Ytgfpcmfcnphalaa
set_option linter.unusedSimpArgs false
set_option linter.unusedVariables false
open Go.RowKit Go.Joins

theorem dr_start {w W : World} {l : List (Nat × List Value)} (h : Bx w W l) (hl : w.heap.size + l.length ≤ W.heap.size) (x : HfL) : DrS w (W.alloc (.cells (drC x (.slice none 0 0)).toArray 29)) l W.heap.size x (.slice none 0 0) [] :=
  ⟨h.on ((Below.refl _ _).alloc (Nat.le_refl _) _), hl, Arr.fresh W _ _, ownC_nil _ _ _ _ _⟩
set_option maxHeartbeats 1000000 in
theorem spec_drop_bad (h : HfL) (w : World) (q : ¬ h.ok) : Calls Try.prog 25 #[hfL h] w fun e w' => HoIs w.heap.size (illH 1) e w' ∧ Below w.heap.size w w' := by
  have i1 := fun W => spec_right h W
  rw [decide_eq_false q] at i1
  clear q
  go_enter Try.func25, Try.ntmps25
  go_wp2_with (first
    | (go_at_call 20; go_fit (i1 _); rintro e w1 ⟨rfl, hb⟩; have HX1 := Lib.hid ((bx2 w 24 29 (hfC h) hoZ).on hb); clear hb)
    | (go_at_call 44; go_fit (spec_illH 1 _); rintro e w2 ⟨rfl, hb⟩; have HX2 := Lib.hid (HX1.out.on hb); clear hb)
    | (refine wpList_store_row rfl 29 _ _ rfl (w.heap.size + 1) _ rfl rfl 29 _ (HX2.out.2 1 (show 1 < 2 by decide)) (by kernel_rfl) (by rfl) (by kernel_rfl) ?_))
  have HY := HX2.out.row 1 (show 1 < 2 by decide) (hoC hf0 none 0 0 1)
  exact bodyPost_ret (v := hoV hf0 none 0 0 1) (results_cell_row (P := Try.prog) Try.results25 _ _ (w.heap.size + 1) 29 _ (0, 0) _ rfl (HY.2 1 (show 1 < 2 by decide)) Try.underlying29 rfl (by kernel_rfl)) rfl ⟨ho_ill _ _ _, HY.1⟩
set_option maxHeartbeats 1000000 in
theorem spec_drop00 (n : Int) (w : World) (q : HfL.ok ⟨n, 0, 0, 0, 0⟩)  : Calls Try.prog 25 #[.agg #[.int .i64 n, .int .i64 0, .int .i64 0, .int .i64 0, .int .i64 0]] w fun e w' => HoIs w.heap.size ⟨⟨n, 0, 0, 0, 0⟩, [], 0⟩ e w' ∧ Below w.heap.size w w' := by
  have i1 := fun W => spec_right ⟨n, 0, 0, 0, 0⟩ W
  rw [decide_eq_true q] at i1
  obtain ⟨q0, q1, q2, q3, q4, q5, q6, q7, q8, q9, q10, q11⟩ := q
  dsimp only at q0 q1 q2 q3 q4 q5 q6 q7 q8 q9 q10 q11
  clear q6 q11
  go_enter Try.func25, Try.ntmps25
  go_wp2_with (first
    | (go_at_call 20; go_fit (i1 _); rintro e w1 ⟨rfl, hb⟩; have HX1 := Lib.hid ((bx2 w 24 29 [.int .i64 n, .int .i64 0, .int .i64 0, .int .i64 0, .int .i64 0] hoZ).on hb); clear hb; obtain ⟨⟨c0, c1, c2, c3, c4⟩, _⟩ := hf_cells (b := w.heap.size) (h := ⟨n, 0, 0, 0, 0⟩) (HX1.out.2 0 (show 0 < 2 by decide)); dsimp only at c0 c1 c2 c3 c4; have HD0 := Lib.hid (dr_start HX1.out (arr_ltH (HX1.out.2 1 (show 1 < 2 by decide))) ⟨n, 0, 0, 0, 0⟩); have hz1 : w.heap.size < w1.heap.size := arr_ltH (HX1.out.2 0 (show 0 < 2 by decide)))
    | (have _ := HD0; refine wpList_store_row rfl 29 _ _ rfl (w.heap.size + 1) _ rfl rfl 29 _ (HD0.out.bx.2 1 (show 1 < 2 by decide)) (by kernel_rfl) (by rfl) (by kernel_rfl) ?_))
  have HY := HD0.out.bx.row 1 (show 1 < 2 by decide) (hoC ⟨n, 0, 0, 0, 0⟩ none 0 0 0)
  exact bodyPost_ret (v := hoV ⟨n, 0, 0, 0, 0⟩ none 0 0 0) (results_cell_row (P := Try.prog) Try.results25 _ _ (w.heap.size + 1) 29 _ (0, 0) _ rfl (HY.2 1 (show 1 < 2 by decide)) Try.underlying29 rfl (by kernel_rfl)) rfl ⟨ho_none _ _ _, HY.1⟩
set_option maxHeartbeats 1000000 in
theorem spec_drop01 (n i f : Int) (w : World) (q : HfL.ok ⟨n, 0, 0, i, f⟩) (gb : (i + f == 0) = false) : Calls Try.prog 25 #[.agg #[.int .i64 n, .int .i64 0, .int .i64 0, .int .i64 i, .int .i64 f]] w fun e w' => HoIs w.heap.size ⟨⟨n, 0, 0, 0, 0⟩, [⟨4, i + f⟩], 0⟩ e w' ∧ Below w.heap.size w w' := by
  have i1 := fun W => spec_right ⟨n, 0, 0, i, f⟩ W
  rw [decide_eq_true q] at i1
  obtain ⟨q0, q1, q2, q3, q4, q5, q6, q7, q8, q9, q10, q11⟩ := q
  dsimp only at q0 q1 q2 q3 q4 q5 q6 q7 q8 q9 q10 q11
  clear q6 q11
  go_enter Try.func25, Try.ntmps25
  go_wp2_with (first
    | (at_builtin; have _ := HD0; refine app_C sbC_one sbC_len Try.underlying27 info_sbH rfl (by decide) (by decide) _ rfl _ _ rfl (w1.heap.size + 2) _ ([] : List SbL) rfl (HD0.out.on ((Below.refl _ _).alloc (Nat.le_refl _) _)).own ((w1.alloc (.cells (drC ⟨n, 0, 0, 0, 0⟩ (.slice none 0 0)).toArray 29))).heap.size ⟨4, (i + f)⟩ (by simp [go_sem]) (Arr.fresh (w1.alloc (.cells (drC ⟨n, 0, 0, 0, 0⟩ (.slice none 0 0)).toArray 29)) _ [.int .i64 4, .int .i64 (i + f)]) (by simp) (by have hq := arr_ltH HD0.out.arr; simp only [World.size_alloc, World.size_setCell] at hq ⊢; omega) ?_; intro v1 v1w ho hg; obtain ⟨p1, k1, hv, _⟩ := ho.row sbC_len; replace hv : v1 = .slice p1 1 k1 := hv; subst hv; replace ho : OwnC sbC v1w (w1.heap.size + 2) 32 2 (.slice p1 1 k1) [⟨4, (i + f)⟩] := ho; have HL1 := Lib.hid ((HD0.out.on ((Below.refl _ _).alloc (Nat.le_refl _) _)).low hg); have HD1 := Lib.hid ((HD0.out.on ((Below.refl _ _).alloc (Nat.le_refl _) _)).send hg ho); clear ho hg; obtain ⟨⟨c0, c1, c2, c3, c4⟩, _⟩ := hf_cells (b := w.heap.size) (h := ⟨n, 0, 0, i, f⟩) (HL1.out.1.2 0 (show 0 < 2 by decide)); dsimp only at c0 c1 c2 c3 c4; obtain ⟨⟨d0, d1, d2, d3, d4, d5, d6⟩, e0, e1, e2, e3, e4, e5⟩ := dr_cells HL1.out.2; dsimp only at d0 d1 d2 d3 d4 d5 d6)
    | (go_at_call 20; go_fit (i1 _); rintro e w1 ⟨rfl, hb⟩; have HX1 := Lib.hid ((bx2 w 24 29 [.int .i64 n, .int .i64 0, .int .i64 0, .int .i64 i, .int .i64 f] hoZ).on hb); clear hb; obtain ⟨⟨c0, c1, c2, c3, c4⟩, _⟩ := hf_cells (b := w.heap.size) (h := ⟨n, 0, 0, i, f⟩) (HX1.out.2 0 (show 0 < 2 by decide)); dsimp only at c0 c1 c2 c3 c4; have HD0 := Lib.hid (dr_start HX1.out (arr_ltH (HX1.out.2 1 (show 1 < 2 by decide))) ⟨n, 0, 0, 0, 0⟩); have hz1 : w.heap.size < w1.heap.size := arr_ltH (HX1.out.2 0 (show 0 < 2 by decide)))
    | (have _ := HD1; refine wpList_store_row rfl 29 _ _ rfl (w.heap.size + 1) _ rfl rfl 29 _ (HD1.out.bx.2 1 (show 1 < 2 by decide)) (by kernel_rfl) (by rfl) (by kernel_rfl) ?_))
  have HY := HD1.out.bx.row 1 (show 1 < 2 by decide) (hoC ⟨n, 0, 0, 0, 0⟩ p1 1 k1 0)
  exact bodyPost_ret (v := hoV ⟨n, 0, 0, 0, 0⟩ p1 1 k1 0) (results_cell_row (P := Try.prog) Try.results25 _ _ (w.heap.size + 1) 29 _ (0, 0) _ rfl (HY.2 1 (show 1 < 2 by decide)) Try.underlying29 rfl (by kernel_rfl)) rfl ⟨⟨p1, k1, rfl, (HD1.out.own.setRowH (by omega) _).mono (by omega)⟩, HY.1⟩
set_option maxHeartbeats 1000000 in
theorem spec_drop10 (n o t : Int) (w : World) (q : HfL.ok ⟨n, o, t, 0, 0⟩) (ga : (o + t == 0) = false) : Calls Try.prog 25 #[.agg #[.int .i64 n, .int .i64 o, .int .i64 t, .int .i64 0, .int .i64 0]] w fun e w' => HoIs w.heap.size ⟨⟨n, 0, 0, 0, 0⟩, [⟨3, o + t⟩], 0⟩ e w' ∧ Below w.heap.size w w' := by
  have i1 := fun W => spec_right ⟨n, o, t, 0, 0⟩ W
  rw [decide_eq_true q] at i1
  obtain ⟨q0, q1, q2, q3, q4, q5, q6, q7, q8, q9, q10, q11⟩ := q
  dsimp only at q0 q1 q2 q3 q4 q5 q6 q7 q8 q9 q10 q11
  clear q6 q11
  go_enter Try.func25, Try.ntmps25
  go_wp2_with (first
    | (at_builtin; have _ := HD0; refine app_C sbC_one sbC_len Try.underlying27 info_sbH rfl (by decide) (by decide) _ rfl _ _ rfl (w1.heap.size + 2) _ ([] : List SbL) rfl (HD0.out.on ((Below.refl _ _).alloc (Nat.le_refl _) _)).own ((w1.alloc (.cells (drC ⟨n, 0, 0, 0, 0⟩ (.slice none 0 0)).toArray 29))).heap.size ⟨3, (o + t)⟩ (by simp [go_sem]) (Arr.fresh (w1.alloc (.cells (drC ⟨n, 0, 0, 0, 0⟩ (.slice none 0 0)).toArray 29)) _ [.int .i64 3, .int .i64 (o + t)]) (by simp) (by have hq := arr_ltH HD0.out.arr; simp only [World.size_alloc, World.size_setCell] at hq ⊢; omega) ?_; intro v1 v1w ho hg; obtain ⟨p1, k1, hv, _⟩ := ho.row sbC_len; replace hv : v1 = .slice p1 1 k1 := hv; subst hv; replace ho : OwnC sbC v1w (w1.heap.size + 2) 32 2 (.slice p1 1 k1) [⟨3, (o + t)⟩] := ho; have HL1 := Lib.hid ((HD0.out.on ((Below.refl _ _).alloc (Nat.le_refl _) _)).low hg); have HD1 := Lib.hid ((HD0.out.on ((Below.refl _ _).alloc (Nat.le_refl _) _)).send hg ho); clear ho hg; obtain ⟨⟨c0, c1, c2, c3, c4⟩, _⟩ := hf_cells (b := w.heap.size) (h := ⟨n, o, t, 0, 0⟩) (HL1.out.1.2 0 (show 0 < 2 by decide)); dsimp only at c0 c1 c2 c3 c4; obtain ⟨⟨d0, d1, d2, d3, d4, d5, d6⟩, e0, e1, e2, e3, e4, e5⟩ := dr_cells HL1.out.2; dsimp only at d0 d1 d2 d3 d4 d5 d6)
    | (go_at_call 20; go_fit (i1 _); rintro e w1 ⟨rfl, hb⟩; have HX1 := Lib.hid ((bx2 w 24 29 [.int .i64 n, .int .i64 o, .int .i64 t, .int .i64 0, .int .i64 0] hoZ).on hb); clear hb; obtain ⟨⟨c0, c1, c2, c3, c4⟩, _⟩ := hf_cells (b := w.heap.size) (h := ⟨n, o, t, 0, 0⟩) (HX1.out.2 0 (show 0 < 2 by decide)); dsimp only at c0 c1 c2 c3 c4; have HD0 := Lib.hid (dr_start HX1.out (arr_ltH (HX1.out.2 1 (show 1 < 2 by decide))) ⟨n, 0, 0, 0, 0⟩); have hz1 : w.heap.size < w1.heap.size := arr_ltH (HX1.out.2 0 (show 0 < 2 by decide)))
    | (have _ := HD1; refine wpList_store_row rfl 29 _ _ rfl (w.heap.size + 1) _ rfl rfl 29 _ (HD1.out.bx.2 1 (show 1 < 2 by decide)) (by kernel_rfl) (by rfl) (by kernel_rfl) ?_))
  have HY := HD1.out.bx.row 1 (show 1 < 2 by decide) (hoC ⟨n, 0, 0, 0, 0⟩ p1 1 k1 0)
  exact bodyPost_ret (v := hoV ⟨n, 0, 0, 0, 0⟩ p1 1 k1 0) (results_cell_row (P := Try.prog) Try.results25 _ _ (w.heap.size + 1) 29 _ (0, 0) _ rfl (HY.2 1 (show 1 < 2 by decide)) Try.underlying29 rfl (by kernel_rfl)) rfl ⟨⟨p1, k1, rfl, (HD1.out.own.setRowH (by omega) _).mono (by omega)⟩, HY.1⟩
set_option maxHeartbeats 1000000 in
theorem spec_drop11 (n o t i f : Int) (w : World) (q : HfL.ok ⟨n, o, t, i, f⟩) (ga : (o + t == 0) = false) (gb : (i + f == 0) = false) : Calls Try.prog 25 #[.agg #[.int .i64 n, .int .i64 o, .int .i64 t, .int .i64 i, .int .i64 f]] w fun e w' => HoIs w.heap.size ⟨⟨n, 0, 0, 0, 0⟩, [⟨3, o + t⟩, ⟨4, i + f⟩], 0⟩ e w' ∧ Below w.heap.size w w' := by
  have i1 := fun W => spec_right ⟨n, o, t, i, f⟩ W
  rw [decide_eq_true q] at i1
  obtain ⟨q0, q1, q2, q3, q4, q5, q6, q7, q8, q9, q10, q11⟩ := q
  dsimp only at q0 q1 q2 q3 q4 q5 q6 q7 q8 q9 q10 q11
  clear q6 q11
  go_enter Try.func25, Try.ntmps25
  go_wp2_with (first
    | (at_builtin; have _ := HD1; refine app_C sbC_one sbC_len Try.underlying27 info_sbH rfl (by decide) (by decide) _ rfl _ _ rfl (w1.heap.size + 2) _ [⟨3, (o + t)⟩] rfl (HD1.out.on ((Below.refl _ _).alloc (Nat.le_refl _) _)).own ((v1w.setCell ⟨w1.heap.size, 5, none⟩ (.slice p1 1 k1))).heap.size ⟨4, (i + f)⟩ (by simp [go_sem]) (Arr.fresh (v1w.setCell ⟨w1.heap.size, 5, none⟩ (.slice p1 1 k1)) _ [.int .i64 4, .int .i64 (i + f)]) (by simp) (by have hq := arr_ltH HD1.out.arr; simp only [World.size_alloc, World.size_setCell] at hq ⊢; omega) ?_; intro v2 v2w ho hg; obtain ⟨p2, k2, hv, _⟩ := ho.row sbC_len; replace hv : v2 = .slice p2 2 k2 := hv; subst hv; replace ho : OwnC sbC v2w (w1.heap.size + 2) 32 2 (.slice p2 2 k2) [⟨3, (o + t)⟩, ⟨4, (i + f)⟩] := ho; have HL2 := Lib.hid ((HD1.out.on ((Below.refl _ _).alloc (Nat.le_refl _) _)).low hg); have HD2 := Lib.hid ((HD1.out.on ((Below.refl _ _).alloc (Nat.le_refl _) _)).send hg ho); clear ho hg; obtain ⟨⟨c0, c1, c2, c3, c4⟩, _⟩ := hf_cells (b := w.heap.size) (h := ⟨n, o, t, i, f⟩) (HL2.out.1.2 0 (show 0 < 2 by decide)); dsimp only at c0 c1 c2 c3 c4; obtain ⟨⟨d0, d1, d2, d3, d4, d5, d6⟩, e0, e1, e2, e3, e4, e5⟩ := dr_cells HL2.out.2; dsimp only at d0 d1 d2 d3 d4 d5 d6)
    | (at_builtin; have _ := HD0; refine app_C sbC_one sbC_len Try.underlying27 info_sbH rfl (by decide) (by decide) _ rfl _ _ rfl (w1.heap.size + 2) _ ([] : List SbL) rfl (HD0.out.on ((Below.refl _ _).alloc (Nat.le_refl _) _)).own ((w1.alloc (.cells (drC ⟨n, 0, 0, 0, 0⟩ (.slice none 0 0)).toArray 29))).heap.size ⟨3, (o + t)⟩ (by simp [go_sem]) (Arr.fresh (w1.alloc (.cells (drC ⟨n, 0, 0, 0, 0⟩ (.slice none 0 0)).toArray 29)) _ [.int .i64 3, .int .i64 (o + t)]) (by simp) (by have hq := arr_ltH HD0.out.arr; simp only [World.size_alloc, World.size_setCell] at hq ⊢; omega) ?_; intro v1 v1w ho hg; obtain ⟨p1, k1, hv, _⟩ := ho.row sbC_len; replace hv : v1 = .slice p1 1 k1 := hv; subst hv; replace ho : OwnC sbC v1w (w1.heap.size + 2) 32 2 (.slice p1 1 k1) [⟨3, (o + t)⟩] := ho; have HL1 := Lib.hid ((HD0.out.on ((Below.refl _ _).alloc (Nat.le_refl _) _)).low hg); have HD1 := Lib.hid ((HD0.out.on ((Below.refl _ _).alloc (Nat.le_refl _) _)).send hg ho); clear ho hg; obtain ⟨⟨c0, c1, c2, c3, c4⟩, _⟩ := hf_cells (b := w.heap.size) (h := ⟨n, o, t, i, f⟩) (HL1.out.1.2 0 (show 0 < 2 by decide)); dsimp only at c0 c1 c2 c3 c4; obtain ⟨⟨d0, d1, d2, d3, d4, d5, d6⟩, e0, e1, e2, e3, e4, e5⟩ := dr_cells HL1.out.2; dsimp only at d0 d1 d2 d3 d4 d5 d6)
    | (go_at_call 20; go_fit (i1 _); rintro e w1 ⟨rfl, hb⟩; have HX1 := Lib.hid ((bx2 w 24 29 [.int .i64 n, .int .i64 o, .int .i64 t, .int .i64 i, .int .i64 f] hoZ).on hb); clear hb; obtain ⟨⟨c0, c1, c2, c3, c4⟩, _⟩ := hf_cells (b := w.heap.size) (h := ⟨n, o, t, i, f⟩) (HX1.out.2 0 (show 0 < 2 by decide)); dsimp only at c0 c1 c2 c3 c4; have HD0 := Lib.hid (dr_start HX1.out (arr_ltH (HX1.out.2 1 (show 1 < 2 by decide))) ⟨n, 0, 0, 0, 0⟩); have hz1 : w.heap.size < w1.heap.size := arr_ltH (HX1.out.2 0 (show 0 < 2 by decide)))
    | (have _ := HD2; refine wpList_store_row rfl 29 _ _ rfl (w.heap.size + 1) _ rfl rfl 29 _ (HD2.out.bx.2 1 (show 1 < 2 by decide)) (by kernel_rfl) (by rfl) (by kernel_rfl) ?_))
  have HY := HD2.out.bx.row 1 (show 1 < 2 by decide) (hoC ⟨n, 0, 0, 0, 0⟩ p2 2 k2 0)
  exact bodyPost_ret (v := hoV ⟨n, 0, 0, 0, 0⟩ p2 2 k2 0) (results_cell_row (P := Try.prog) Try.results25 _ _ (w.heap.size + 1) 29 _ (0, 0) _ rfl (HY.2 1 (show 1 < 2 by decide)) Try.underlying29 rfl (by kernel_rfl)) rfl ⟨⟨p2, k2, rfl, (HD2.out.own.setRowH (by omega) _).mono (by omega)⟩, HY.1⟩
end Go.Proofs.Ytgfpcmfcnphalaa
