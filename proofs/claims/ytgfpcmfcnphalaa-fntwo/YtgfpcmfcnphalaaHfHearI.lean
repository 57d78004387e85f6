/- impl.HalfHear. -/
import Derived.Test.YtgfpcmfcnphalaaHfHearS
import Derived.Test.YtgfpcmfcnphalaaDrawBase
import Derived.Deep.RegionHeld3
namespace Go.Proofs.Ytgfpcmfcnphalaa
set_option linter.unusedSimpArgs false
set_option linter.unusedVariables false
open Go.RowKit

theorem Bx.put0 {w W : World} {t : Nat} {c : List Value} {l : List (Nat × List Value)} (h : Bx w W ((t, c) :: l)) (i : Nat) (u : Value) : Bx w (W.setCell ⟨w.heap.size, i, none⟩ u) ((t, c.set i u) :: l) := by
  refine ⟨h.1.setCell (p := ⟨w.heap.size, i, none⟩) (Nat.le_refl _) u, fun k hk => ?_⟩
  match k, hk with
  | 0, _ => exact Arr.put (h.2 0 (Nat.succ_pos _)) i u
  | k + 1, hk =>
    have h1 := h.2 (k + 1) hk
    exact (heap_setCell_other W ⟨w.heap.size, i, none⟩ (w.heap.size + (k + 1)) u (by show w.heap.size + (k + 1) ≠ w.heap.size; omega)).trans h1
theorem cell_farH {W : World} {a : Addr} {b i : Nat} {u v : Value} (h : W.cell? a = some v) (hne : a.block ≠ b) : (W.setCell ⟨b, i, none⟩ u).cell? a = some v := by
  unfold World.cell? at h ⊢
  rw [heap_setCell_other W ⟨b, i, none⟩ a.block u hne]
  exact h
theorem Bx.drew {w W : World} {l : List (Nat × List Value)} (h : Bx w W l) : Bx w W.drew l := h.on (Below.refl _ _).drew
set_option maxHeartbeats 1000000 in
theorem impl_hear_bad (h : HfL) (k m : Int) (w : World) (q : ¬ h.ok) : Calls Try.prog 15 #[hfL h, .agg #[.int .i64 k, .int .i64 m]] w fun e w' => HoIs w.heap.size (illH 1) e w' ∧ Below w.heap.size w w' := by
  have i1 := fun W => impl_right h W
  rw [decide_eq_false q] at i1
  clear q
  go_enter Try.func15, Try.ntmps15
  go_wp2_with (first
    | (go_at_call 19; go_fit (i1 _); rintro e w1 ⟨rfl, hb⟩; have HX1 := Lib.hid ((bx3 w 24 32 29 (hfC h) [.int .i64 k, .int .i64 m] hoZ).on hb); clear hb; obtain ⟨⟨c0, c1, c2, c3, c4⟩, _⟩ := hf_cells (b := w.heap.size) (HX1.out.2 0 (show 0 < 3 by decide)); obtain ⟨s0, s1⟩ := sb_cells (b := w.heap.size + 1) (HX1.out.2 1 (show 1 < 3 by decide)))
    | (refine wpList_store_row rfl 29 _ _ rfl (w.heap.size + 2) _ rfl rfl 29 _ (HX1.out.2 2 (show 2 < 3 by decide)) (by kernel_rfl) (by rfl) (by kernel_rfl) ?_))
  have HY := HX1.out.row 2 (show 2 < 3 by decide) (hoC hf0 none 0 0 1)
  exact bodyPost_ret (v := hoV hf0 none 0 0 1) (results_cell_row (P := Try.prog) Try.results15 _ _ (w.heap.size + 2) 29 _ (0, 0) _ rfl (HY.2 2 (show 2 < 3 by decide)) Try.underlying29 rfl (by kernel_rfl)) rfl ⟨ho_ill _ _ _, HY.1⟩
set_option maxHeartbeats 1000000 in
theorem impl_hear_kind (h : HfL) (k m : Int) (w : World) (q : h.ok) (g : isN 1 4 k = false) : Calls Try.prog 15 #[hfL h, .agg #[.int .i64 k, .int .i64 m]] w fun e w' => HoIs w.heap.size (illH 1) e w' ∧ Below w.heap.size w w' := by
  have i1 := fun W => impl_right h W
  rw [decide_eq_true q] at i1
  have i2 := hf_kind k
  rw [g] at i2
  clear q
  go_enter Try.func15, Try.ntmps15
  go_wp2_with (first
    | (go_at_call 19; go_fit (i1 _); rintro e w1 ⟨rfl, hb⟩; have HX1 := Lib.hid ((bx3 w 24 32 29 (hfC h) [.int .i64 k, .int .i64 m] hoZ).on hb); clear hb; obtain ⟨⟨c0, c1, c2, c3, c4⟩, _⟩ := hf_cells (b := w.heap.size) (HX1.out.2 0 (show 0 < 3 by decide)); obtain ⟨s0, s1⟩ := sb_cells (b := w.heap.size + 1) (HX1.out.2 1 (show 1 < 3 by decide)))
    | (go_at_call 38; go_fit (i2 _); rintro e w' ⟨rfl, rfl⟩)
    | (refine wpList_store_row rfl 29 _ _ rfl (w.heap.size + 2) _ rfl rfl 29 _ (HX1.out.2 2 (show 2 < 3 by decide)) (by kernel_rfl) (by rfl) (by kernel_rfl) ?_))
  have HY := HX1.out.row 2 (show 2 < 3 by decide) (hoC hf0 none 0 0 1)
  exact bodyPost_ret (v := hoV hf0 none 0 0 1) (results_cell_row (P := Try.prog) Try.results15 _ _ (w.heap.size + 2) 29 _ (0, 0) _ rfl (HY.2 2 (show 2 < 3 by decide)) Try.underlying29 rfl (by kernel_rfl)) rfl ⟨ho_ill _ _ _, HY.1⟩
set_option maxHeartbeats 1000000 in
theorem impl_hear_time (h : HfL) (k m : Int) (w : World) (q : h.ok) (g : isN 1 4 k = true) (g2 : isN 0 1000000000 m = false) : Calls Try.prog 15 #[hfL h, .agg #[.int .i64 k, .int .i64 m]] w fun e w' => HoIs w.heap.size (illH 1) e w' ∧ Below w.heap.size w w' := by
  have i1 := fun W => impl_right h W
  rw [decide_eq_true q] at i1
  have i2 := hf_kind k
  rw [g] at i2
  have i3 := hf_time m
  rw [g2] at i3
  clear q
  go_enter Try.func15, Try.ntmps15
  go_wp2_with (first
    | (go_at_call 19; go_fit (i1 _); rintro e w1 ⟨rfl, hb⟩; have HX1 := Lib.hid ((bx3 w 24 32 29 (hfC h) [.int .i64 k, .int .i64 m] hoZ).on hb); clear hb; obtain ⟨⟨c0, c1, c2, c3, c4⟩, _⟩ := hf_cells (b := w.heap.size) (HX1.out.2 0 (show 0 < 3 by decide)); obtain ⟨s0, s1⟩ := sb_cells (b := w.heap.size + 1) (HX1.out.2 1 (show 1 < 3 by decide)))
    | (go_at_call 38; go_fit (i2 _); rintro e w' ⟨rfl, rfl⟩)
    | (go_at_call 42; go_fit (i3 _); rintro e w' ⟨rfl, rfl⟩)
    | (refine wpList_store_row rfl 29 _ _ rfl (w.heap.size + 2) _ rfl rfl 29 _ (HX1.out.2 2 (show 2 < 3 by decide)) (by kernel_rfl) (by rfl) (by kernel_rfl) ?_))
  have HY := HX1.out.row 2 (show 2 < 3 by decide) (hoC hf0 none 0 0 1)
  exact bodyPost_ret (v := hoV hf0 none 0 0 1) (results_cell_row (P := Try.prog) Try.results15 _ _ (w.heap.size + 2) 29 _ (0, 0) _ rfl (HY.2 2 (show 2 < 3 by decide)) Try.underlying29 rfl (by kernel_rfl)) rfl ⟨ho_ill _ _ _, HY.1⟩
set_option maxHeartbeats 1000000 in
theorem impl_hear_zero (h : HfL) (k : Int) (w : World) (q : h.ok) (g : isN 1 4 k = true) : Calls Try.prog 15 #[hfL h, .agg #[.int .i64 k, .int .i64 0]] w fun e w' => HoIs w.heap.size (illH 1) e w' ∧ Below w.heap.size w w' := by
  have i1 := fun W => impl_right h W
  rw [decide_eq_true q] at i1
  have i2 := hf_kind k
  rw [g] at i2
  have i3 := hf_time 0
  rw [show isN 0 1000000000 0 = true from rfl] at i3
  clear q
  go_enter Try.func15, Try.ntmps15
  go_wp2_with (first
    | (go_at_call 19; go_fit (i1 _); rintro e w1 ⟨rfl, hb⟩; have HX1 := Lib.hid ((bx3 w 24 32 29 (hfC h) [.int .i64 k, .int .i64 0] hoZ).on hb); clear hb; obtain ⟨⟨c0, c1, c2, c3, c4⟩, _⟩ := hf_cells (b := w.heap.size) (HX1.out.2 0 (show 0 < 3 by decide)); obtain ⟨s0, s1⟩ := sb_cells (b := w.heap.size + 1) (HX1.out.2 1 (show 1 < 3 by decide)))
    | (go_at_call 38; go_fit (i2 _); rintro e w' ⟨rfl, rfl⟩)
    | (go_at_call 42; go_fit (i3 _); rintro e w' ⟨rfl, rfl⟩)
    | (refine wpList_store_row rfl 29 _ _ rfl (w.heap.size + 2) _ rfl rfl 29 _ (HX1.out.2 2 (show 2 < 3 by decide)) (by kernel_rfl) (by rfl) (by kernel_rfl) ?_))
  have HY := HX1.out.row 2 (show 2 < 3 by decide) (hoC hf0 none 0 0 1)
  exact bodyPost_ret (v := hoV hf0 none 0 0 1) (results_cell_row (P := Try.prog) Try.results15 _ _ (w.heap.size + 2) 29 _ (0, 0) _ rfl (HY.2 2 (show 2 < 3 by decide)) Try.underlying29 rfl (by kernel_rfl)) rfl ⟨ho_ill _ _ _, HY.1⟩
set_option maxHeartbeats 1000000 in
theorem g1 (n o t i f m : Int) (w : World) (q : HfL.ok ⟨n, o, t, i, f⟩) (qm : isN 0 1000000000 m = true) (qz : (m == 0) = false)  : Calls Try.prog 15 #[.agg #[.int .i64 n, .int .i64 o, .int .i64 t, .int .i64 i, .int .i64 f], .agg #[.int .i64 1, .int .i64 m]] w fun e w' => HoIs w.heap.size ⟨⟨n, o, t, m, 0⟩, [], 0⟩ e w' ∧ Below w.heap.size w w' := by
  have i1 := fun W => impl_right ⟨n, o, t, i, f⟩ W
  rw [decide_eq_true q] at i1
  have i2 := hf_kind 1
  rw [show isN 1 4 1 = true from rfl] at i2
  have i3 := hf_time m
  rw [qm] at i3
  clear q qm
  go_enter Try.func15, Try.ntmps15
  go_wp2_with (first
    | (go_at_call 19; go_fit (i1 _); rintro e w1 ⟨rfl, hb⟩; have HX1 := Lib.hid ((bx3 w 24 32 29 [.int .i64 n, .int .i64 o, .int .i64 t, .int .i64 i, .int .i64 f] [.int .i64 1, .int .i64 m] hoZ).on hb); clear hb; obtain ⟨⟨c0, c1, c2, c3, c4⟩, _⟩ := hf_cells (b := w.heap.size) (h := ⟨n, o, t, i, f⟩) (HX1.out.2 0 (show 0 < 3 by decide)); obtain ⟨s0, s1⟩ := sb_cells (b := w.heap.size + 1) (HX1.out.2 1 (show 1 < 3 by decide)); dsimp only at c0 c1 c2 c3 c4)
    | (go_at_call 38; go_fit (i2 _); rintro e w' ⟨rfl, rfl⟩)
    | (go_at_call 42; go_fit (i3 _); rintro e w' ⟨rfl, rfl⟩)
    | (refine wpList_store_row rfl 29 _ _ rfl (w.heap.size + 2) _ rfl rfl 29 _ (by first | exact HX1.out.2 2 (show 2 < 3 by decide) | exact ((HX1.out.put0 3 (.int .i64 m)).put0 4 (.int .i64 0)).2 2 (show 2 < 3 by decide) | exact ((HX1.out.put0 3 (.int .i64 m)).put0 4 (.int .i64 0)).drew.2 2 (show 2 < 3 by decide) | exact HX1.out.drew.2 2 (show 2 < 3 by decide)) (by kernel_rfl) (by rfl) (by kernel_rfl) ?_))
  have HY := ((HX1.out.put0 3 (.int .i64 m)).put0 4 (.int .i64 0)).row 2 (show 2 < 3 by decide) (hoC ⟨n, o, t, m, 0⟩ none 0 0 0)
  exact bodyPost_ret (v := hoV ⟨n, o, t, m, 0⟩ none 0 0 0) (results_cell_row (P := Try.prog) Try.results15 _ _ (w.heap.size + 2) 29 _ (0, 0) _ rfl (HY.2 2 (show 2 < 3 by decide)) Try.underlying29 rfl (by kernel_rfl)) rfl ⟨ho_none _ _ _, HY.1⟩
set_option maxHeartbeats 1000000 in
theorem g2a (n t i f m : Int) (w : World) (q : HfL.ok ⟨n, m, t, i, f⟩) (qm : isN 0 1000000000 m = true) (qz : (m == 0) = false)  : Calls Try.prog 15 #[.agg #[.int .i64 n, .int .i64 m, .int .i64 t, .int .i64 i, .int .i64 f], .agg #[.int .i64 2, .int .i64 m]] w fun e w' => HoIs w.heap.size ⟨⟨n, 0, m, i, f⟩, [], 0⟩ e w' ∧ Below w.heap.size w w' := by
  have i1 := fun W => impl_right ⟨n, m, t, i, f⟩ W
  rw [decide_eq_true q] at i1
  have i2 := hf_kind 2
  rw [show isN 1 4 2 = true from rfl] at i2
  have i3 := hf_time m
  rw [qm] at i3
  clear q qm
  go_enter Try.func15, Try.ntmps15
  go_wp2_with (first
    | (go_at_call 19; go_fit (i1 _); rintro e w1 ⟨rfl, hb⟩; have HX1 := Lib.hid ((bx3 w 24 32 29 [.int .i64 n, .int .i64 m, .int .i64 t, .int .i64 i, .int .i64 f] [.int .i64 2, .int .i64 m] hoZ).on hb); clear hb; obtain ⟨⟨c0, c1, c2, c3, c4⟩, _⟩ := hf_cells (b := w.heap.size) (h := ⟨n, m, t, i, f⟩) (HX1.out.2 0 (show 0 < 3 by decide)); obtain ⟨s0, s1⟩ := sb_cells (b := w.heap.size + 1) (HX1.out.2 1 (show 1 < 3 by decide)); dsimp only at c0 c1 c2 c3 c4)
    | (go_at_call 38; go_fit (i2 _); rintro e w' ⟨rfl, rfl⟩)
    | (go_at_call 42; go_fit (i3 _); rintro e w' ⟨rfl, rfl⟩)
    | (refine wpList_store_row rfl 29 _ _ rfl (w.heap.size + 2) _ rfl rfl 29 _ (by first | exact HX1.out.2 2 (show 2 < 3 by decide) | exact ((HX1.out.put0 1 (.int .i64 0)).put0 2 (.int .i64 m)).2 2 (show 2 < 3 by decide) | exact ((HX1.out.put0 1 (.int .i64 0)).put0 2 (.int .i64 m)).drew.2 2 (show 2 < 3 by decide) | exact HX1.out.drew.2 2 (show 2 < 3 by decide)) (by kernel_rfl) (by rfl) (by kernel_rfl) ?_))
  go_region_held3 (fun W => W.cell? ⟨w.heap.size + 1, 1, none⟩ = some (.int .i64 m)) (first | assumption | exact cell_farH (by assumption) (by simp)) (fail)
  go_wp2_with (refine wpList_store_row rfl 29 _ _ rfl (w.heap.size + 2) _ rfl rfl 29 _ (by first | exact HX1.out.2 2 (show 2 < 3 by decide) | exact ((HX1.out.put0 1 (.int .i64 0)).put0 2 (.int .i64 m)).2 2 (show 2 < 3 by decide) | exact ((HX1.out.put0 1 (.int .i64 0)).put0 2 (.int .i64 m)).drew.2 2 (show 2 < 3 by decide) | exact HX1.out.drew.2 2 (show 2 < 3 by decide)) (by kernel_rfl) (by rfl) (by kernel_rfl) ?_)
  have HY := ((HX1.out.put0 1 (.int .i64 0)).put0 2 (.int .i64 m)).drew.row 2 (show 2 < 3 by decide) (hoC ⟨n, 0, m, i, f⟩ none 0 0 0)
  exact bodyPost_ret (v := hoV ⟨n, 0, m, i, f⟩ none 0 0 0) (results_cell_row (P := Try.prog) Try.results15 _ _ (w.heap.size + 2) 29 _ (0, 0) _ rfl (HY.2 2 (show 2 < 3 by decide)) Try.underlying29 rfl (by kernel_rfl)) rfl ⟨ho_none _ _ _, HY.1⟩
set_option maxHeartbeats 1000000 in
theorem g2b (n o t i f m : Int) (w : World) (q : HfL.ok ⟨n, o, t, i, f⟩) (qm : isN 0 1000000000 m = true) (qz : (m == 0) = false) (g0 : (o == m) = false) : Calls Try.prog 15 #[.agg #[.int .i64 n, .int .i64 o, .int .i64 t, .int .i64 i, .int .i64 f], .agg #[.int .i64 2, .int .i64 m]] w fun e w' => HoIs w.heap.size ⟨⟨n, o, t, i, f⟩, [], 0⟩ e w' ∧ Below w.heap.size w w' := by
  have i1 := fun W => impl_right ⟨n, o, t, i, f⟩ W
  rw [decide_eq_true q] at i1
  have i2 := hf_kind 2
  rw [show isN 1 4 2 = true from rfl] at i2
  have i3 := hf_time m
  rw [qm] at i3
  clear q qm
  go_enter Try.func15, Try.ntmps15
  go_wp2_with (first
    | (go_at_call 19; go_fit (i1 _); rintro e w1 ⟨rfl, hb⟩; have HX1 := Lib.hid ((bx3 w 24 32 29 [.int .i64 n, .int .i64 o, .int .i64 t, .int .i64 i, .int .i64 f] [.int .i64 2, .int .i64 m] hoZ).on hb); clear hb; obtain ⟨⟨c0, c1, c2, c3, c4⟩, _⟩ := hf_cells (b := w.heap.size) (h := ⟨n, o, t, i, f⟩) (HX1.out.2 0 (show 0 < 3 by decide)); obtain ⟨s0, s1⟩ := sb_cells (b := w.heap.size + 1) (HX1.out.2 1 (show 1 < 3 by decide)); dsimp only at c0 c1 c2 c3 c4)
    | (go_at_call 38; go_fit (i2 _); rintro e w' ⟨rfl, rfl⟩)
    | (go_at_call 42; go_fit (i3 _); rintro e w' ⟨rfl, rfl⟩)
    | (refine wpList_store_row rfl 29 _ _ rfl (w.heap.size + 2) _ rfl rfl 29 _ (by first | exact HX1.out.2 2 (show 2 < 3 by decide) | exact HX1.out.2 2 (show 2 < 3 by decide) | exact HX1.out.drew.2 2 (show 2 < 3 by decide) | exact HX1.out.drew.2 2 (show 2 < 3 by decide)) (by kernel_rfl) (by rfl) (by kernel_rfl) ?_))
  have HY := HX1.out.row 2 (show 2 < 3 by decide) (hoC ⟨n, o, t, i, f⟩ none 0 0 0)
  exact bodyPost_ret (v := hoV ⟨n, o, t, i, f⟩ none 0 0 0) (results_cell_row (P := Try.prog) Try.results15 _ _ (w.heap.size + 2) 29 _ (0, 0) _ rfl (HY.2 2 (show 2 < 3 by decide)) Try.underlying29 rfl (by kernel_rfl)) rfl ⟨ho_none _ _ _, HY.1⟩
set_option maxHeartbeats 1000000 in
theorem g3a (n o t i f m : Int) (w : World) (q : HfL.ok ⟨n, o, t, i, f⟩) (qm : isN 0 1000000000 m = true) (qz : (m == 0) = false) (g0 : (if i < f then f else i) = m) : Calls Try.prog 15 #[.agg #[.int .i64 n, .int .i64 o, .int .i64 t, .int .i64 i, .int .i64 f], .agg #[.int .i64 3, .int .i64 m]] w fun e w' => HoIs w.heap.size ⟨⟨n, o, t, 0, 0⟩, [], 0⟩ e w' ∧ Below w.heap.size w w' := by
  have i1 := fun W => impl_right ⟨n, o, t, i, f⟩ W
  rw [decide_eq_true q] at i1
  have i2 := hf_kind 3
  rw [show isN 1 4 3 = true from rfl] at i2
  have i3 := hf_time m
  rw [qm] at i3
  clear q qm
  go_enter Try.func15, Try.ntmps15
  go_wp2_with (first
    | (go_at_call 19; go_fit (i1 _); rintro e w1 ⟨rfl, hb⟩; have HX1 := Lib.hid ((bx3 w 24 32 29 [.int .i64 n, .int .i64 o, .int .i64 t, .int .i64 i, .int .i64 f] [.int .i64 3, .int .i64 m] hoZ).on hb); clear hb; obtain ⟨⟨c0, c1, c2, c3, c4⟩, _⟩ := hf_cells (b := w.heap.size) (h := ⟨n, o, t, i, f⟩) (HX1.out.2 0 (show 0 < 3 by decide)); obtain ⟨s0, s1⟩ := sb_cells (b := w.heap.size + 1) (HX1.out.2 1 (show 1 < 3 by decide)); dsimp only at c0 c1 c2 c3 c4)
    | (go_at_call 38; go_fit (i2 _); rintro e w' ⟨rfl, rfl⟩)
    | (go_at_call 42; go_fit (i3 _); rintro e w' ⟨rfl, rfl⟩)
    | (refine wpList_store_row rfl 29 _ _ rfl (w.heap.size + 2) _ rfl rfl 29 _ (by first | exact HX1.out.2 2 (show 2 < 3 by decide) | exact ((HX1.out.put0 3 (.int .i64 0)).put0 4 (.int .i64 0)).2 2 (show 2 < 3 by decide) | exact ((HX1.out.put0 3 (.int .i64 0)).put0 4 (.int .i64 0)).drew.2 2 (show 2 < 3 by decide) | exact HX1.out.drew.2 2 (show 2 < 3 by decide)) (by kernel_rfl) (by rfl) (by kernel_rfl) ?_))
  go_region_held3 (fun W => W.cell? ⟨w.heap.size + 1, 1, none⟩ = some (.int .i64 m) ∧ W.cell? ⟨w.heap.size, 3, none⟩ = some (.int .i64 i) ∧ W.cell? ⟨w.heap.size, 4, none⟩ = some (.int .i64 f)) (first | assumption | trivial) (fail)
  go_wp2_with (refine wpList_store_row rfl 29 _ _ rfl (w.heap.size + 2) _ rfl rfl 29 _ (by first | exact HX1.out.2 2 (show 2 < 3 by decide) | exact ((HX1.out.put0 3 (.int .i64 0)).put0 4 (.int .i64 0)).2 2 (show 2 < 3 by decide) | exact ((HX1.out.put0 3 (.int .i64 0)).put0 4 (.int .i64 0)).drew.2 2 (show 2 < 3 by decide) | exact HX1.out.drew.2 2 (show 2 < 3 by decide)) (by kernel_rfl) (by rfl) (by kernel_rfl) ?_)
  have HY := ((HX1.out.put0 3 (.int .i64 0)).put0 4 (.int .i64 0)).drew.row 2 (show 2 < 3 by decide) (hoC ⟨n, o, t, 0, 0⟩ none 0 0 0)
  exact bodyPost_ret (v := hoV ⟨n, o, t, 0, 0⟩ none 0 0 0) (results_cell_row (P := Try.prog) Try.results15 _ _ (w.heap.size + 2) 29 _ (0, 0) _ rfl (HY.2 2 (show 2 < 3 by decide)) Try.underlying29 rfl (by kernel_rfl)) rfl ⟨ho_none _ _ _, HY.1⟩
set_option maxHeartbeats 1000000 in
theorem g3b (n o t i f m : Int) (w : World) (q : HfL.ok ⟨n, o, t, i, f⟩) (qm : isN 0 1000000000 m = true) (qz : (m == 0) = false) (g0 : (if i < f then f else i) = i + f) (g1 : (i + f == m) = false) : Calls Try.prog 15 #[.agg #[.int .i64 n, .int .i64 o, .int .i64 t, .int .i64 i, .int .i64 f], .agg #[.int .i64 3, .int .i64 m]] w fun e w' => HoIs w.heap.size ⟨⟨n, o, t, i, f⟩, [], 0⟩ e w' ∧ Below w.heap.size w w' := by
  have i1 := fun W => impl_right ⟨n, o, t, i, f⟩ W
  rw [decide_eq_true q] at i1
  have i2 := hf_kind 3
  rw [show isN 1 4 3 = true from rfl] at i2
  have i3 := hf_time m
  rw [qm] at i3
  clear q qm
  go_enter Try.func15, Try.ntmps15
  go_wp2_with (first
    | (go_at_call 19; go_fit (i1 _); rintro e w1 ⟨rfl, hb⟩; have HX1 := Lib.hid ((bx3 w 24 32 29 [.int .i64 n, .int .i64 o, .int .i64 t, .int .i64 i, .int .i64 f] [.int .i64 3, .int .i64 m] hoZ).on hb); clear hb; obtain ⟨⟨c0, c1, c2, c3, c4⟩, _⟩ := hf_cells (b := w.heap.size) (h := ⟨n, o, t, i, f⟩) (HX1.out.2 0 (show 0 < 3 by decide)); obtain ⟨s0, s1⟩ := sb_cells (b := w.heap.size + 1) (HX1.out.2 1 (show 1 < 3 by decide)); dsimp only at c0 c1 c2 c3 c4)
    | (go_at_call 38; go_fit (i2 _); rintro e w' ⟨rfl, rfl⟩)
    | (go_at_call 42; go_fit (i3 _); rintro e w' ⟨rfl, rfl⟩)
    | (refine wpList_store_row rfl 29 _ _ rfl (w.heap.size + 2) _ rfl rfl 29 _ (by first | exact HX1.out.2 2 (show 2 < 3 by decide) | exact HX1.out.2 2 (show 2 < 3 by decide) | exact HX1.out.drew.2 2 (show 2 < 3 by decide) | exact HX1.out.drew.2 2 (show 2 < 3 by decide)) (by kernel_rfl) (by rfl) (by kernel_rfl) ?_))
  go_region_held3 (fun W => W.cell? ⟨w.heap.size + 1, 1, none⟩ = some (.int .i64 m) ∧ W.cell? ⟨w.heap.size, 3, none⟩ = some (.int .i64 i) ∧ W.cell? ⟨w.heap.size, 4, none⟩ = some (.int .i64 f)) (first | assumption | trivial) (fail)
  go_wp2_with (refine wpList_store_row rfl 29 _ _ rfl (w.heap.size + 2) _ rfl rfl 29 _ (by first | exact HX1.out.2 2 (show 2 < 3 by decide) | exact HX1.out.2 2 (show 2 < 3 by decide) | exact HX1.out.drew.2 2 (show 2 < 3 by decide) | exact HX1.out.drew.2 2 (show 2 < 3 by decide)) (by kernel_rfl) (by rfl) (by kernel_rfl) ?_)
  have HY := HX1.out.drew.row 2 (show 2 < 3 by decide) (hoC ⟨n, o, t, i, f⟩ none 0 0 0)
  exact bodyPost_ret (v := hoV ⟨n, o, t, i, f⟩ none 0 0 0) (results_cell_row (P := Try.prog) Try.results15 _ _ (w.heap.size + 2) 29 _ (0, 0) _ rfl (HY.2 2 (show 2 < 3 by decide)) Try.underlying29 rfl (by kernel_rfl)) rfl ⟨ho_none _ _ _, HY.1⟩
set_option maxHeartbeats 1000000 in
theorem g4a (n o t i f m : Int) (w : World) (q : HfL.ok ⟨n, o, t, i, f⟩) (qm : isN 0 1000000000 m = true) (qz : (m == 0) = false) (g0 : (if o < t then t else o) = m) : Calls Try.prog 15 #[.agg #[.int .i64 n, .int .i64 o, .int .i64 t, .int .i64 i, .int .i64 f], .agg #[.int .i64 4, .int .i64 m]] w fun e w' => HoIs w.heap.size ⟨⟨n, 0, 0, i, f⟩, [], 0⟩ e w' ∧ Below w.heap.size w w' := by
  have i1 := fun W => impl_right ⟨n, o, t, i, f⟩ W
  rw [decide_eq_true q] at i1
  have i2 := hf_kind 4
  rw [show isN 1 4 4 = true from rfl] at i2
  have i3 := hf_time m
  rw [qm] at i3
  clear q qm
  go_enter Try.func15, Try.ntmps15
  go_wp2_with (first
    | (go_at_call 19; go_fit (i1 _); rintro e w1 ⟨rfl, hb⟩; have HX1 := Lib.hid ((bx3 w 24 32 29 [.int .i64 n, .int .i64 o, .int .i64 t, .int .i64 i, .int .i64 f] [.int .i64 4, .int .i64 m] hoZ).on hb); clear hb; obtain ⟨⟨c0, c1, c2, c3, c4⟩, _⟩ := hf_cells (b := w.heap.size) (h := ⟨n, o, t, i, f⟩) (HX1.out.2 0 (show 0 < 3 by decide)); obtain ⟨s0, s1⟩ := sb_cells (b := w.heap.size + 1) (HX1.out.2 1 (show 1 < 3 by decide)); dsimp only at c0 c1 c2 c3 c4)
    | (go_at_call 38; go_fit (i2 _); rintro e w' ⟨rfl, rfl⟩)
    | (go_at_call 42; go_fit (i3 _); rintro e w' ⟨rfl, rfl⟩)
    | (refine wpList_store_row rfl 29 _ _ rfl (w.heap.size + 2) _ rfl rfl 29 _ (by first | exact HX1.out.2 2 (show 2 < 3 by decide) | exact ((HX1.out.put0 1 (.int .i64 0)).put0 2 (.int .i64 0)).2 2 (show 2 < 3 by decide) | exact ((HX1.out.put0 1 (.int .i64 0)).put0 2 (.int .i64 0)).drew.2 2 (show 2 < 3 by decide) | exact HX1.out.drew.2 2 (show 2 < 3 by decide)) (by kernel_rfl) (by rfl) (by kernel_rfl) ?_))
  go_region_held3 (fun W => W.cell? ⟨w.heap.size + 1, 1, none⟩ = some (.int .i64 m) ∧ W.cell? ⟨w.heap.size, 1, none⟩ = some (.int .i64 o) ∧ W.cell? ⟨w.heap.size, 2, none⟩ = some (.int .i64 t)) (first | assumption | trivial) (fail)
  go_wp2_with (refine wpList_store_row rfl 29 _ _ rfl (w.heap.size + 2) _ rfl rfl 29 _ (by first | exact HX1.out.2 2 (show 2 < 3 by decide) | exact ((HX1.out.put0 1 (.int .i64 0)).put0 2 (.int .i64 0)).2 2 (show 2 < 3 by decide) | exact ((HX1.out.put0 1 (.int .i64 0)).put0 2 (.int .i64 0)).drew.2 2 (show 2 < 3 by decide) | exact HX1.out.drew.2 2 (show 2 < 3 by decide)) (by kernel_rfl) (by rfl) (by kernel_rfl) ?_)
  have HY := ((HX1.out.put0 1 (.int .i64 0)).put0 2 (.int .i64 0)).drew.row 2 (show 2 < 3 by decide) (hoC ⟨n, 0, 0, i, f⟩ none 0 0 0)
  exact bodyPost_ret (v := hoV ⟨n, 0, 0, i, f⟩ none 0 0 0) (results_cell_row (P := Try.prog) Try.results15 _ _ (w.heap.size + 2) 29 _ (0, 0) _ rfl (HY.2 2 (show 2 < 3 by decide)) Try.underlying29 rfl (by kernel_rfl)) rfl ⟨ho_none _ _ _, HY.1⟩
set_option maxHeartbeats 1000000 in
theorem g4b (n o t i f m : Int) (w : World) (q : HfL.ok ⟨n, o, t, i, f⟩) (qm : isN 0 1000000000 m = true) (qz : (m == 0) = false) (g0 : (if o < t then t else o) = o + t) (g1 : (o + t == m) = false) : Calls Try.prog 15 #[.agg #[.int .i64 n, .int .i64 o, .int .i64 t, .int .i64 i, .int .i64 f], .agg #[.int .i64 4, .int .i64 m]] w fun e w' => HoIs w.heap.size ⟨⟨n, o, t, i, f⟩, [], 0⟩ e w' ∧ Below w.heap.size w w' := by
  have i1 := fun W => impl_right ⟨n, o, t, i, f⟩ W
  rw [decide_eq_true q] at i1
  have i2 := hf_kind 4
  rw [show isN 1 4 4 = true from rfl] at i2
  have i3 := hf_time m
  rw [qm] at i3
  clear q qm
  go_enter Try.func15, Try.ntmps15
  go_wp2_with (first
    | (go_at_call 19; go_fit (i1 _); rintro e w1 ⟨rfl, hb⟩; have HX1 := Lib.hid ((bx3 w 24 32 29 [.int .i64 n, .int .i64 o, .int .i64 t, .int .i64 i, .int .i64 f] [.int .i64 4, .int .i64 m] hoZ).on hb); clear hb; obtain ⟨⟨c0, c1, c2, c3, c4⟩, _⟩ := hf_cells (b := w.heap.size) (h := ⟨n, o, t, i, f⟩) (HX1.out.2 0 (show 0 < 3 by decide)); obtain ⟨s0, s1⟩ := sb_cells (b := w.heap.size + 1) (HX1.out.2 1 (show 1 < 3 by decide)); dsimp only at c0 c1 c2 c3 c4)
    | (go_at_call 38; go_fit (i2 _); rintro e w' ⟨rfl, rfl⟩)
    | (go_at_call 42; go_fit (i3 _); rintro e w' ⟨rfl, rfl⟩)
    | (refine wpList_store_row rfl 29 _ _ rfl (w.heap.size + 2) _ rfl rfl 29 _ (by first | exact HX1.out.2 2 (show 2 < 3 by decide) | exact HX1.out.2 2 (show 2 < 3 by decide) | exact HX1.out.drew.2 2 (show 2 < 3 by decide) | exact HX1.out.drew.2 2 (show 2 < 3 by decide)) (by kernel_rfl) (by rfl) (by kernel_rfl) ?_))
  go_region_held3 (fun W => W.cell? ⟨w.heap.size + 1, 1, none⟩ = some (.int .i64 m) ∧ W.cell? ⟨w.heap.size, 1, none⟩ = some (.int .i64 o) ∧ W.cell? ⟨w.heap.size, 2, none⟩ = some (.int .i64 t)) (first | assumption | trivial) (fail)
  go_wp2_with (refine wpList_store_row rfl 29 _ _ rfl (w.heap.size + 2) _ rfl rfl 29 _ (by first | exact HX1.out.2 2 (show 2 < 3 by decide) | exact HX1.out.2 2 (show 2 < 3 by decide) | exact HX1.out.drew.2 2 (show 2 < 3 by decide) | exact HX1.out.drew.2 2 (show 2 < 3 by decide)) (by kernel_rfl) (by rfl) (by kernel_rfl) ?_)
  have HY := HX1.out.drew.row 2 (show 2 < 3 by decide) (hoC ⟨n, o, t, i, f⟩ none 0 0 0)
  exact bodyPost_ret (v := hoV ⟨n, o, t, i, f⟩ none 0 0 0) (results_cell_row (P := Try.prog) Try.results15 _ _ (w.heap.size + 2) 29 _ (0, 0) _ rfl (HY.2 2 (show 2 < 3 by decide)) Try.underlying29 rfl (by kernel_rfl)) rfl ⟨ho_none _ _ _, HY.1⟩
theorem max_sum {a b : Int} (ha : 0 ≤ a) (hb : 0 ≤ b) (h : a = 0 ∨ b = 0) : (if a < b then b else a) = a + b := by
  split <;> omega
theorem impl_hear_in (h : HfL) (k m : Int) (w : World) (q : h.ok) (g : (isN 1 4 k && isN 1 1000000000 m) = true) : Calls Try.prog 15 #[hfL h, .agg #[.int .i64 k, .int .i64 m]] w fun e w' => HoIs w.heap.size ⟨hearH h ⟨k, m⟩, [], 0⟩ e w' ∧ Below w.heap.size w w' := by
  rw [Bool.and_eq_true] at g
  obtain ⟨k1, k4⟩ := isN_iff.1 g.1
  obtain ⟨m1, m2⟩ := isN_iff.1 g.2
  have qm : isN 0 1000000000 m = true := isN_iff.2 ⟨by omega, m2⟩
  have qz : (m == 0) = false := neM (by omega)
  have hk : k = 1 ∨ k = 2 ∨ k = 3 ∨ k = 4 := by omega
  rcases hk with rfl | rfl | rfl | rfl
  · exact g1 h.n h.o h.t h.i h.f m w q qm qz
  · have e : hearH h ⟨2, m⟩ = if h.o = m then ⟨h.n, 0, m, h.i, h.f⟩ else h := rfl
    rw [e]
    by_cases ho : h.o = m
    · rw [if_pos ho]
      obtain ⟨n, o, t, i, f⟩ := h
      dsimp only at ho
      subst ho
      exact g2a n t i f o w q qm qz
    · rw [if_neg ho]
      exact g2b h.n h.o h.t h.i h.f m w q qm qz (neM ho)
  · rw [hear3 q m1]
    obtain ⟨n, o, t, i, f⟩ := h
    have q' := q
    obtain ⟨q0, q1, q2, q3, q4, q5, q6, q7, q8, q9, q10, q11⟩ := q'
    dsimp only at q0 q1 q2 q3 q4 q5 q6 q7 q8 q9 q10 q11 ⊢
    by_cases e : i + f = m
    · rw [if_pos e]
      exact g3a n o t i f m w q qm qz ((max_sum q7 q9 q11).trans e)
    · rw [if_neg e]
      exact g3b n o t i f m w q qm qz (max_sum q7 q9 q11) (neM e)
  · rw [hear4 q m1]
    obtain ⟨n, o, t, i, f⟩ := h
    have q' := q
    obtain ⟨q0, q1, q2, q3, q4, q5, q6, q7, q8, q9, q10, q11⟩ := q'
    dsimp only at q0 q1 q2 q3 q4 q5 q6 q7 q8 q9 q10 q11 ⊢
    by_cases e : o + t = m
    · rw [if_pos e]
      exact g4a n o t i f m w q qm qz ((max_sum q2 q4 q6).trans e)
    · rw [if_neg e]
      exact g4b n o t i f m w q qm qz (max_sum q2 q4 q6) (neM e)
theorem impl_hear (h : HfL) (x : SbL) (w : World) : Calls Try.prog 15 #[hfL h, sbL x] w fun e w' => HoIs w.heap.size (hearR h x) e w' ∧ Below w.heap.size w w' := by
  obtain ⟨k, m⟩ := x
  by_cases q : h.ok
  · cases g : (isN 1 4 k && isN 1 1000000000 m)
    · rw [hearR_sub g]
      cases g1 : isN 1 4 k
      · exact impl_hear_kind h k m w q g1
      · rw [g1, Bool.true_and] at g
        by_cases e : m = 0
        · subst e
          exact impl_hear_zero h k w q g1
        · refine impl_hear_time h k m w q g1 ?_
          cases g2 : isN 0 1000000000 m
          · rfl
          · have := isN_iff.1 g2
            rw [isN_iff.2 ⟨by omega, this.2⟩] at g
            cases g
    · rw [hearR_in q g]
      exact impl_hear_in h k m w q g
  · rw [hearR_bad q]
    exact impl_hear_bad h k m w q
end Go.Proofs.Ytgfpcmfcnphalaa
