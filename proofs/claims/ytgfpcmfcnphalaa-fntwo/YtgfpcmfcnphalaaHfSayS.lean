/- spec.l08Say and spec.HalfSay. -/
import Derived.Test.YtgfpcmfcnphalaaHfAns
namespace Go.Proofs.Ytgfpcmfcnphalaa
set_option linter.unusedSimpArgs false
set_option linter.unusedVariables false
open Go.RowKit

set_option maxHeartbeats 1000000 in
theorem s1a (n o t i f : Int) (w : World) (q : HfL.ok ⟨n, o, t, i, f⟩) (g0 : (o == 0) = false) : Calls Try.prog 45 #[.agg #[.int .i64 n, .int .i64 o, .int .i64 t, .int .i64 i, .int .i64 f], .int .i64 1] w fun e w' => HoIs w.heap.size (illH 10) e w' ∧ Below w.heap.size w w' := by
  obtain ⟨q0, q1, q2, q3, q4, q5, q6, q7, q8, q9, q10, q11⟩ := q
  dsimp only at q0 q1 q2 q3 q4 q5 q6 q7 q8 q9 q10 q11
  clear q6 q11
  go_enter Try.func45, Try.ntmps45
  go_wp2_with (first
    | (go_at_call 44; go_fit (spec_illH 10 _); rintro e w1 ⟨rfl, hb⟩; have HB := Lib.hid ((bx2 w 24 29 [.int .i64 n, .int .i64 o, .int .i64 t, .int .i64 i, .int .i64 f] hoZ).on hb); clear hb)
    | (refine wpList_store_row rfl 29 _ _ rfl (w.heap.size + 1) _ rfl rfl 29 _ (HB.out.2 1 (show 1 < 2 by decide)) (by kernel_rfl) (by rfl) (by kernel_rfl) ?_))
  have HY := HB.out.row 1 (show 1 < 2 by decide) (hoC hf0 none 0 0 10)
  exact bodyPost_ret (v := hoV hf0 none 0 0 10) (results_cell_row (P := Try.prog) Try.results45 _ _ (w.heap.size + 1) 29 _ (0, 0) _ rfl (HY.2 1 (show 1 < 2 by decide)) Try.underlying29 rfl (by kernel_rfl)) rfl ⟨ho_ill _ _ _, HY.1⟩
set_option maxHeartbeats 1000000 in
theorem s1b (n t i f : Int) (w : World) (q : HfL.ok ⟨n, 0, t, i, f⟩) (g0 : (t == 0) = false) : Calls Try.prog 45 #[.agg #[.int .i64 n, .int .i64 0, .int .i64 t, .int .i64 i, .int .i64 f], .int .i64 1] w fun e w' => HoIs w.heap.size (illH 10) e w' ∧ Below w.heap.size w w' := by
  obtain ⟨q0, q1, q2, q3, q4, q5, q6, q7, q8, q9, q10, q11⟩ := q
  dsimp only at q0 q1 q2 q3 q4 q5 q6 q7 q8 q9 q10 q11
  clear q6 q11
  go_enter Try.func45, Try.ntmps45
  go_wp2_with (first
    | (go_at_call 44; go_fit (spec_illH 10 _); rintro e w1 ⟨rfl, hb⟩; have HB := Lib.hid ((bx2 w 24 29 [.int .i64 n, .int .i64 0, .int .i64 t, .int .i64 i, .int .i64 f] hoZ).on hb); clear hb)
    | (refine wpList_store_row rfl 29 _ _ rfl (w.heap.size + 1) _ rfl rfl 29 _ (HB.out.2 1 (show 1 < 2 by decide)) (by kernel_rfl) (by rfl) (by kernel_rfl) ?_))
  have HY := HB.out.row 1 (show 1 < 2 by decide) (hoC hf0 none 0 0 10)
  exact bodyPost_ret (v := hoV hf0 none 0 0 10) (results_cell_row (P := Try.prog) Try.results45 _ _ (w.heap.size + 1) 29 _ (0, 0) _ rfl (HY.2 1 (show 1 < 2 by decide)) Try.underlying29 rfl (by kernel_rfl)) rfl ⟨ho_ill _ _ _, HY.1⟩
set_option maxHeartbeats 1000000 in
theorem s1c (n i f : Int) (w : World) (q : HfL.ok ⟨n, 0, 0, i, f⟩) (g0 : 1000000000 ≤ n) : Calls Try.prog 45 #[.agg #[.int .i64 n, .int .i64 0, .int .i64 0, .int .i64 i, .int .i64 f], .int .i64 1] w fun e w' => HoIs w.heap.size (illH 9) e w' ∧ Below w.heap.size w w' := by
  obtain ⟨q0, q1, q2, q3, q4, q5, q6, q7, q8, q9, q10, q11⟩ := q
  dsimp only at q0 q1 q2 q3 q4 q5 q6 q7 q8 q9 q10 q11
  clear q6 q11
  go_enter Try.func45, Try.ntmps45
  go_wp2_with (first
    | (go_at_call 44; go_fit (spec_illH 9 _); rintro e w1 ⟨rfl, hb⟩; have HB := Lib.hid ((bx2 w 24 29 [.int .i64 n, .int .i64 0, .int .i64 0, .int .i64 i, .int .i64 f] hoZ).on hb); clear hb)
    | (refine wpList_store_row rfl 29 _ _ rfl (w.heap.size + 1) _ rfl rfl 29 _ (HB.out.2 1 (show 1 < 2 by decide)) (by kernel_rfl) (by rfl) (by kernel_rfl) ?_))
  have HY := HB.out.row 1 (show 1 < 2 by decide) (hoC hf0 none 0 0 9)
  exact bodyPost_ret (v := hoV hf0 none 0 0 9) (results_cell_row (P := Try.prog) Try.results45 _ _ (w.heap.size + 1) 29 _ (0, 0) _ rfl (HY.2 1 (show 1 < 2 by decide)) Try.underlying29 rfl (by kernel_rfl)) rfl ⟨ho_ill _ _ _, HY.1⟩
set_option maxHeartbeats 1000000 in
theorem s1d (n i f : Int) (w : World) (q : HfL.ok ⟨n, 0, 0, i, f⟩) (g0 : ¬ 1000000000 ≤ n) : Calls Try.prog 45 #[.agg #[.int .i64 n, .int .i64 0, .int .i64 0, .int .i64 i, .int .i64 f], .int .i64 1] w fun e w' => HoIs w.heap.size (sentH ⟨(n + 1), (n + 1), 0, i, f⟩ 1 (n + 1)) e w' ∧ Below w.heap.size w w' := by
  obtain ⟨q0, q1, q2, q3, q4, q5, q6, q7, q8, q9, q10, q11⟩ := q
  dsimp only at q0 q1 q2 q3 q4 q5 q6 q7 q8 q9 q10 q11
  clear q6 q11
  go_enter Try.func45, Try.ntmps45
  go_wp2_with (first
    | (go_at_call 60; go_fit (spec_sentH (n + 1) (n + 1) 0 i f 1 (n + 1) _); rintro e w1 ⟨⟨p, c, rfl, ho⟩, hb⟩; have HB := Lib.hid ((bx2 w 24 29 [.int .i64 (n + 1), .int .i64 (n + 1), .int .i64 0, .int .i64 i, .int .i64 f] hoZ).on hb); have HO := Lib.hid (ho.mono (B' := w.heap.size + 2) (by simp)); clear hb ho)
    | (refine wpList_store_row rfl 29 _ _ rfl (w.heap.size + 1) _ rfl rfl 29 _ (HB.out.2 1 (show 1 < 2 by decide)) (by kernel_rfl) (by rfl) (by kernel_rfl) ?_))
  have HY := HB.out.row 1 (show 1 < 2 by decide) (hoC ⟨(n + 1), (n + 1), 0, i, f⟩ p 1 c 0)
  exact bodyPost_ret (v := hoV ⟨(n + 1), (n + 1), 0, i, f⟩ p 1 c 0) (results_cell_row (P := Try.prog) Try.results45 _ _ (w.heap.size + 1) 29 _ (0, 0) _ rfl (HY.2 1 (show 1 < 2 by decide)) Try.underlying29 rfl (by kernel_rfl)) rfl ⟨⟨p, c, rfl, (HO.out.setRowH (by omega) _).mono (by omega)⟩, HY.1⟩
set_option maxHeartbeats 1000000 in
theorem s2a (n o t f : Int) (w : World) (q : HfL.ok ⟨n, o, t, 0, f⟩)  : Calls Try.prog 45 #[.agg #[.int .i64 n, .int .i64 o, .int .i64 t, .int .i64 0, .int .i64 f], .int .i64 2] w fun e w' => HoIs w.heap.size (illH 10) e w' ∧ Below w.heap.size w w' := by
  obtain ⟨q0, q1, q2, q3, q4, q5, q6, q7, q8, q9, q10, q11⟩ := q
  dsimp only at q0 q1 q2 q3 q4 q5 q6 q7 q8 q9 q10 q11
  clear q6 q11
  go_enter Try.func45, Try.ntmps45
  go_wp2_with (first
    | (go_at_call 44; go_fit (spec_illH 10 _); rintro e w1 ⟨rfl, hb⟩; have HB := Lib.hid ((bx2 w 24 29 [.int .i64 n, .int .i64 o, .int .i64 t, .int .i64 0, .int .i64 f] hoZ).on hb); clear hb)
    | (refine wpList_store_row rfl 29 _ _ rfl (w.heap.size + 1) _ rfl rfl 29 _ (HB.out.2 1 (show 1 < 2 by decide)) (by kernel_rfl) (by rfl) (by kernel_rfl) ?_))
  have HY := HB.out.row 1 (show 1 < 2 by decide) (hoC hf0 none 0 0 10)
  exact bodyPost_ret (v := hoV hf0 none 0 0 10) (results_cell_row (P := Try.prog) Try.results45 _ _ (w.heap.size + 1) 29 _ (0, 0) _ rfl (HY.2 1 (show 1 < 2 by decide)) Try.underlying29 rfl (by kernel_rfl)) rfl ⟨ho_ill _ _ _, HY.1⟩
set_option maxHeartbeats 1000000 in
theorem s2b (n o t i f : Int) (w : World) (q : HfL.ok ⟨n, o, t, i, f⟩) (g0 : (i == 0) = false) : Calls Try.prog 45 #[.agg #[.int .i64 n, .int .i64 o, .int .i64 t, .int .i64 i, .int .i64 f], .int .i64 2] w fun e w' => HoIs w.heap.size (sentH ⟨n, o, t, 0, i⟩ 2 i) e w' ∧ Below w.heap.size w w' := by
  obtain ⟨q0, q1, q2, q3, q4, q5, q6, q7, q8, q9, q10, q11⟩ := q
  dsimp only at q0 q1 q2 q3 q4 q5 q6 q7 q8 q9 q10 q11
  clear q6 q11
  go_enter Try.func45, Try.ntmps45
  go_wp2_with (first
    | (go_at_call 60; go_fit (spec_sentH n o t 0 i 2 i _); rintro e w1 ⟨⟨p, c, rfl, ho⟩, hb⟩; have HB := Lib.hid ((bx2 w 24 29 [.int .i64 n, .int .i64 o, .int .i64 t, .int .i64 0, .int .i64 i] hoZ).on hb); have HO := Lib.hid (ho.mono (B' := w.heap.size + 2) (by simp)); clear hb ho)
    | (refine wpList_store_row rfl 29 _ _ rfl (w.heap.size + 1) _ rfl rfl 29 _ (HB.out.2 1 (show 1 < 2 by decide)) (by kernel_rfl) (by rfl) (by kernel_rfl) ?_))
  have HY := HB.out.row 1 (show 1 < 2 by decide) (hoC ⟨n, o, t, 0, i⟩ p 1 c 0)
  exact bodyPost_ret (v := hoV ⟨n, o, t, 0, i⟩ p 1 c 0) (results_cell_row (P := Try.prog) Try.results45 _ _ (w.heap.size + 1) 29 _ (0, 0) _ rfl (HY.2 1 (show 1 < 2 by decide)) Try.underlying29 rfl (by kernel_rfl)) rfl ⟨⟨p, c, rfl, (HO.out.setRowH (by omega) _).mono (by omega)⟩, HY.1⟩
set_option maxHeartbeats 1000000 in
theorem s3a (n i f : Int) (w : World) (q : HfL.ok ⟨n, 0, 0, i, f⟩)  : Calls Try.prog 45 #[.agg #[.int .i64 n, .int .i64 0, .int .i64 0, .int .i64 i, .int .i64 f], .int .i64 3] w fun e w' => HoIs w.heap.size (illH 10) e w' ∧ Below w.heap.size w w' := by
  obtain ⟨q0, q1, q2, q3, q4, q5, q6, q7, q8, q9, q10, q11⟩ := q
  dsimp only at q0 q1 q2 q3 q4 q5 q6 q7 q8 q9 q10 q11
  clear q6 q11
  go_enter Try.func45, Try.ntmps45
  go_wp2_with (first
    | (go_at_call 44; go_fit (spec_illH 10 _); rintro e w1 ⟨rfl, hb⟩; have HB := Lib.hid ((bx2 w 24 29 [.int .i64 n, .int .i64 0, .int .i64 0, .int .i64 i, .int .i64 f] hoZ).on hb); clear hb)
    | (refine wpList_store_row rfl 29 _ _ rfl (w.heap.size + 1) _ rfl rfl 29 _ (HB.out.2 1 (show 1 < 2 by decide)) (by kernel_rfl) (by rfl) (by kernel_rfl) ?_))
  have HY := HB.out.row 1 (show 1 < 2 by decide) (hoC hf0 none 0 0 10)
  exact bodyPost_ret (v := hoV hf0 none 0 0 10) (results_cell_row (P := Try.prog) Try.results45 _ _ (w.heap.size + 1) 29 _ (0, 0) _ rfl (HY.2 1 (show 1 < 2 by decide)) Try.underlying29 rfl (by kernel_rfl)) rfl ⟨ho_ill _ _ _, HY.1⟩
set_option maxHeartbeats 1000000 in
theorem s3b (n o i f : Int) (w : World) (q : HfL.ok ⟨n, o, 0, i, f⟩) (g0 : (o == 0) = false) : Calls Try.prog 45 #[.agg #[.int .i64 n, .int .i64 o, .int .i64 0, .int .i64 i, .int .i64 f], .int .i64 3] w fun e w' => HoIs w.heap.size (sentH ⟨n, 0, 0, i, f⟩ 3 o) e w' ∧ Below w.heap.size w w' := by
  obtain ⟨q0, q1, q2, q3, q4, q5, q6, q7, q8, q9, q10, q11⟩ := q
  dsimp only at q0 q1 q2 q3 q4 q5 q6 q7 q8 q9 q10 q11
  clear q6 q11
  go_enter Try.func45, Try.ntmps45
  go_wp2_with (first
    | (go_at_call 60; go_fit (spec_sentH n 0 0 i f 3 o _); rintro e w1 ⟨⟨p, c, rfl, ho⟩, hb⟩; have HB := Lib.hid ((bx2 w 24 29 [.int .i64 n, .int .i64 0, .int .i64 0, .int .i64 i, .int .i64 f] hoZ).on hb); have HO := Lib.hid (ho.mono (B' := w.heap.size + 2) (by simp)); clear hb ho)
    | (refine wpList_store_row rfl 29 _ _ rfl (w.heap.size + 1) _ rfl rfl 29 _ (HB.out.2 1 (show 1 < 2 by decide)) (by kernel_rfl) (by rfl) (by kernel_rfl) ?_))
  have HY := HB.out.row 1 (show 1 < 2 by decide) (hoC ⟨n, 0, 0, i, f⟩ p 1 c 0)
  exact bodyPost_ret (v := hoV ⟨n, 0, 0, i, f⟩ p 1 c 0) (results_cell_row (P := Try.prog) Try.results45 _ _ (w.heap.size + 1) 29 _ (0, 0) _ rfl (HY.2 1 (show 1 < 2 by decide)) Try.underlying29 rfl (by kernel_rfl)) rfl ⟨⟨p, c, rfl, (HO.out.setRowH (by omega) _).mono (by omega)⟩, HY.1⟩
set_option maxHeartbeats 1000000 in
theorem s3c (n t i f : Int) (w : World) (q : HfL.ok ⟨n, 0, t, i, f⟩) (g0 : (t == 0) = false) : Calls Try.prog 45 #[.agg #[.int .i64 n, .int .i64 0, .int .i64 t, .int .i64 i, .int .i64 f], .int .i64 3] w fun e w' => HoIs w.heap.size (sentH ⟨n, 0, 0, i, f⟩ 3 t) e w' ∧ Below w.heap.size w w' := by
  obtain ⟨q0, q1, q2, q3, q4, q5, q6, q7, q8, q9, q10, q11⟩ := q
  dsimp only at q0 q1 q2 q3 q4 q5 q6 q7 q8 q9 q10 q11
  clear q6 q11
  go_enter Try.func45, Try.ntmps45
  go_wp2_with (first
    | (go_at_call 60; go_fit (spec_sentH n 0 0 i f 3 t _); rintro e w1 ⟨⟨p, c, rfl, ho⟩, hb⟩; have HB := Lib.hid ((bx2 w 24 29 [.int .i64 n, .int .i64 0, .int .i64 0, .int .i64 i, .int .i64 f] hoZ).on hb); have HO := Lib.hid (ho.mono (B' := w.heap.size + 2) (by simp)); clear hb ho)
    | (refine wpList_store_row rfl 29 _ _ rfl (w.heap.size + 1) _ rfl rfl 29 _ (HB.out.2 1 (show 1 < 2 by decide)) (by kernel_rfl) (by rfl) (by kernel_rfl) ?_))
  have HY := HB.out.row 1 (show 1 < 2 by decide) (hoC ⟨n, 0, 0, i, f⟩ p 1 c 0)
  exact bodyPost_ret (v := hoV ⟨n, 0, 0, i, f⟩ p 1 c 0) (results_cell_row (P := Try.prog) Try.results45 _ _ (w.heap.size + 1) 29 _ (0, 0) _ rfl (HY.2 1 (show 1 < 2 by decide)) Try.underlying29 rfl (by kernel_rfl)) rfl ⟨⟨p, c, rfl, (HO.out.setRowH (by omega) _).mono (by omega)⟩, HY.1⟩
set_option maxHeartbeats 1000000 in
theorem s4a (n o t : Int) (w : World) (q : HfL.ok ⟨n, o, t, 0, 0⟩)  : Calls Try.prog 45 #[.agg #[.int .i64 n, .int .i64 o, .int .i64 t, .int .i64 0, .int .i64 0], .int .i64 4] w fun e w' => HoIs w.heap.size (illH 10) e w' ∧ Below w.heap.size w w' := by
  obtain ⟨q0, q1, q2, q3, q4, q5, q6, q7, q8, q9, q10, q11⟩ := q
  dsimp only at q0 q1 q2 q3 q4 q5 q6 q7 q8 q9 q10 q11
  clear q6 q11
  go_enter Try.func45, Try.ntmps45
  go_wp2_with (first
    | (go_at_call 44; go_fit (spec_illH 10 _); rintro e w1 ⟨rfl, hb⟩; have HB := Lib.hid ((bx2 w 24 29 [.int .i64 n, .int .i64 o, .int .i64 t, .int .i64 0, .int .i64 0] hoZ).on hb); clear hb)
    | (refine wpList_store_row rfl 29 _ _ rfl (w.heap.size + 1) _ rfl rfl 29 _ (HB.out.2 1 (show 1 < 2 by decide)) (by kernel_rfl) (by rfl) (by kernel_rfl) ?_))
  have HY := HB.out.row 1 (show 1 < 2 by decide) (hoC hf0 none 0 0 10)
  exact bodyPost_ret (v := hoV hf0 none 0 0 10) (results_cell_row (P := Try.prog) Try.results45 _ _ (w.heap.size + 1) 29 _ (0, 0) _ rfl (HY.2 1 (show 1 < 2 by decide)) Try.underlying29 rfl (by kernel_rfl)) rfl ⟨ho_ill _ _ _, HY.1⟩
set_option maxHeartbeats 1000000 in
theorem s4b (n o t i : Int) (w : World) (q : HfL.ok ⟨n, o, t, i, 0⟩) (g0 : (i == 0) = false) : Calls Try.prog 45 #[.agg #[.int .i64 n, .int .i64 o, .int .i64 t, .int .i64 i, .int .i64 0], .int .i64 4] w fun e w' => HoIs w.heap.size (sentH ⟨n, o, t, 0, 0⟩ 4 i) e w' ∧ Below w.heap.size w w' := by
  obtain ⟨q0, q1, q2, q3, q4, q5, q6, q7, q8, q9, q10, q11⟩ := q
  dsimp only at q0 q1 q2 q3 q4 q5 q6 q7 q8 q9 q10 q11
  clear q6 q11
  go_enter Try.func45, Try.ntmps45
  go_wp2_with (first
    | (go_at_call 60; go_fit (spec_sentH n o t 0 0 4 i _); rintro e w1 ⟨⟨p, c, rfl, ho⟩, hb⟩; have HB := Lib.hid ((bx2 w 24 29 [.int .i64 n, .int .i64 o, .int .i64 t, .int .i64 0, .int .i64 0] hoZ).on hb); have HO := Lib.hid (ho.mono (B' := w.heap.size + 2) (by simp)); clear hb ho)
    | (refine wpList_store_row rfl 29 _ _ rfl (w.heap.size + 1) _ rfl rfl 29 _ (HB.out.2 1 (show 1 < 2 by decide)) (by kernel_rfl) (by rfl) (by kernel_rfl) ?_))
  have HY := HB.out.row 1 (show 1 < 2 by decide) (hoC ⟨n, o, t, 0, 0⟩ p 1 c 0)
  exact bodyPost_ret (v := hoV ⟨n, o, t, 0, 0⟩ p 1 c 0) (results_cell_row (P := Try.prog) Try.results45 _ _ (w.heap.size + 1) 29 _ (0, 0) _ rfl (HY.2 1 (show 1 < 2 by decide)) Try.underlying29 rfl (by kernel_rfl)) rfl ⟨⟨p, c, rfl, (HO.out.setRowH (by omega) _).mono (by omega)⟩, HY.1⟩
set_option maxHeartbeats 1000000 in
theorem s4c (n o t f : Int) (w : World) (q : HfL.ok ⟨n, o, t, 0, f⟩) (g0 : (f == 0) = false) : Calls Try.prog 45 #[.agg #[.int .i64 n, .int .i64 o, .int .i64 t, .int .i64 0, .int .i64 f], .int .i64 4] w fun e w' => HoIs w.heap.size (sentH ⟨n, o, t, 0, 0⟩ 4 f) e w' ∧ Below w.heap.size w w' := by
  obtain ⟨q0, q1, q2, q3, q4, q5, q6, q7, q8, q9, q10, q11⟩ := q
  dsimp only at q0 q1 q2 q3 q4 q5 q6 q7 q8 q9 q10 q11
  clear q6 q11
  go_enter Try.func45, Try.ntmps45
  go_wp2_with (first
    | (go_at_call 60; go_fit (spec_sentH n o t 0 0 4 f _); rintro e w1 ⟨⟨p, c, rfl, ho⟩, hb⟩; have HB := Lib.hid ((bx2 w 24 29 [.int .i64 n, .int .i64 o, .int .i64 t, .int .i64 0, .int .i64 0] hoZ).on hb); have HO := Lib.hid (ho.mono (B' := w.heap.size + 2) (by simp)); clear hb ho)
    | (refine wpList_store_row rfl 29 _ _ rfl (w.heap.size + 1) _ rfl rfl 29 _ (HB.out.2 1 (show 1 < 2 by decide)) (by kernel_rfl) (by rfl) (by kernel_rfl) ?_))
  have HY := HB.out.row 1 (show 1 < 2 by decide) (hoC ⟨n, o, t, 0, 0⟩ p 1 c 0)
  exact bodyPost_ret (v := hoV ⟨n, o, t, 0, 0⟩ p 1 c 0) (results_cell_row (P := Try.prog) Try.results45 _ _ (w.heap.size + 1) 29 _ (0, 0) _ rfl (HY.2 1 (show 1 < 2 by decide)) Try.underlying29 rfl (by kernel_rfl)) rfl ⟨⟨p, c, rfl, (HO.out.setRowH (by omega) _).mono (by omega)⟩, HY.1⟩
theorem neF {x : Int} (h : x ≠ 0) : (x == 0) = false := by simpa using h
theorem say_eq1 {h : HfL} : sayH h 1 = if h.o ≠ 0 ∨ h.t ≠ 0 then illH 10 else if 1000000000 ≤ h.n then illH 9 else sentH ⟨h.n + 1, h.n + 1, h.t, h.i, h.f⟩ 1 (h.n + 1) := rfl
theorem say_eq2 {h : HfL} : sayH h 2 = if h.i = 0 then illH 10 else sentH ⟨h.n, h.o, h.t, 0, h.i⟩ 2 h.i := rfl
theorem say_eq3 {h : HfL} : sayH h 3 = if h.o + h.t = 0 then illH 10 else sentH ⟨h.n, 0, 0, h.i, h.f⟩ 3 (h.o + h.t) := rfl
theorem say_eq4 {h : HfL} : sayH h 4 = if h.i + h.f = 0 then illH 10 else sentH ⟨h.n, h.o, h.t, 0, 0⟩ 4 (h.i + h.f) := rfl
theorem spec_l08say (h : HfL) (k : Int) (w : World) (q : h.ok) (k1 : 1 ≤ k) (k4 : k ≤ 4) : Calls Try.prog 45 #[hfL h, .int .i64 k] w fun e w' => HoIs w.heap.size (sayH h k) e w' ∧ Below w.heap.size w w' := by
  obtain ⟨n, o, t, i, f⟩ := h
  have q' := q
  obtain ⟨q0, q1, q2, q3, q4, q5, q6, q7, q8, q9, q10, q11⟩ := q'
  dsimp only at q0 q1 q2 q3 q4 q5 q6 q7 q8 q9 q10 q11
  have hk : k = 1 ∨ k = 2 ∨ k = 3 ∨ k = 4 := by omega
  rcases hk with rfl | rfl | rfl | rfl
  · rw [say_eq1]
    by_cases ho : o = 0
    · subst ho
      by_cases ht : t = 0
      · subst ht
        by_cases hn : 1000000000 ≤ n
        · rw [if_neg (by simp), if_pos hn]
          exact s1c n i f w q hn
        · rw [if_neg (by simp), if_neg hn]
          exact s1d n i f w q hn
      · rw [if_pos (.inr ht)]
        exact s1b n t i f w q (neF ht)
    · rw [if_pos (.inl ho)]
      exact s1a n o t i f w q (neF ho)
  · rw [say_eq2]
    by_cases hi : i = 0
    · subst hi
      rw [if_pos rfl]
      exact s2a n o t f w q
    · rw [if_neg hi]
      exact s2b n o t i f w q (neF hi)
  · rw [say_eq3]
    dsimp only
    by_cases ho : o = 0
    · subst ho
      by_cases ht : t = 0
      · subst ht
        exact s3a n i f w q
      · rw [if_neg (by omega), Int.zero_add]
        exact s3c n t i f w q (neF ht)
    · obtain rfl : t = 0 := by omega
      rw [if_neg (by omega), Int.add_zero]
      exact s3b n o i f w q (neF ho)
  · rw [say_eq4]
    dsimp only
    by_cases hi : i = 0
    · subst hi
      by_cases hf : f = 0
      · subst hf
        exact s4a n o t w q
      · rw [if_neg (by omega), Int.zero_add]
        exact s4c n o t f w q (neF hf)
    · obtain rfl : f = 0 := by omega
      rw [if_neg (by omega), Int.add_zero]
      exact s4b n o t i w q (neF hi)
end Go.Proofs.Ytgfpcmfcnphalaa
