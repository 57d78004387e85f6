/- spec.HalfSay and impl.HalfSay. -/
import Derived.Test.YtgfpcmfcnphalaaHfSayI
namespace Go.Proofs.Ytgfpcmfcnphalaa
set_option linter.unusedSimpArgs false
set_option linter.unusedVariables false
open Go.RowKit

theorem isN_iff {l h z : Int} : isN l h z = true ↔ l ≤ z ∧ z ≤ h := by simp [isN]
theorem impl_say_in (h : HfL) (k : Int) (w : World) (q : h.ok) (k1 : 1 ≤ k) (k4 : k ≤ 4) : Calls Try.prog 13 #[hfL h, .int .i64 k] w fun e w' => HoIs w.heap.size (sayH h k) e w' ∧ Below w.heap.size w w' := by
  obtain ⟨n, o, t, i, f⟩ := h
  have q' := q
  obtain ⟨q0, q1, q2, q3, q4, q5, q6, q7, q8, q9, q10, q11⟩ := q'
  dsimp only at q0 q1 q2 q3 q4 q5 q6 q7 q8 q9 q10 q11
  have hk : k = 1 ∨ k = 2 ∨ k = 3 ∨ k = 4 := by omega
  rcases hk with rfl | rfl | rfl | rfl
  · rw [say_eq1]
    by_cases ho : o = 0
    · subst ho
      by_cases ht : t = 0
      · subst ht
        by_cases hn : 1000000000 ≤ n
        · obtain rfl : n = 1000000000 := by omega
          rw [if_neg (by simp), if_pos hn]
          exact i1c i f w q
        · rw [if_neg (by simp), if_neg hn]
          exact i1d n i f w q q0 (by omega) (by simpa using (show n ≠ 1000000000 by omega)) (neF (by omega))
      · rw [if_pos (.inr ht)]
        exact i1b n t i f w q (neF ht)
    · rw [if_pos (.inl ho)]
      exact i1a n o t i f w q (neF ho)
  · rw [say_eq2]
    by_cases hi : i = 0
    · subst hi
      rw [if_pos rfl]
      exact i2a n o t f w q
    · rw [if_neg hi]
      exact i2b n o t i f w q (neF hi)
  · rw [say_eq3]
    dsimp only
    by_cases hs : o + t = 0
    · obtain rfl : o = 0 := by omega
      obtain rfl : t = 0 := by omega
      exact i3a n i f w q
    · rw [if_neg hs]
      exact i3b n o t i f w q q2 q4 q6 hs
  · rw [say_eq4]
    dsimp only
    by_cases hs : i + f = 0
    · obtain rfl : i = 0 := by omega
      obtain rfl : f = 0 := by omega
      exact i4a n o t w q
    · rw [if_neg hs]
      exact i4b n o t i f w q q7 q9 q11 hs
set_option maxHeartbeats 1000000 in
theorem impl_say_bad (h : HfL) (k : Int) (w : World) (q : ¬ h.ok) : Calls Try.prog 13 #[hfL h, .int .i64 k] w fun e w' => HoIs w.heap.size (illH 1) e w' ∧ Below w.heap.size w w' := by
  have i1 := fun W => impl_right h W
  rw [decide_eq_false q] at i1
  clear q
  go_enter Try.func13, Try.ntmps13
  go_wp2_with (first
    | (go_at_call 19; go_fit (i1 _); rintro e w1 ⟨rfl, hb⟩; have HX1 := Lib.hid ((bx2 w 24 29 (hfC h) hoZ).on hb); clear hb; obtain ⟨⟨c0, c1, c2, c3, c4⟩, _⟩ := hf_cells (b := w.heap.size) (HX1.out.2 0 (show 0 < 2 by decide)))
    | (refine wpList_store_row rfl 29 _ _ rfl (w.heap.size + 1) _ rfl rfl 29 _ (HX1.out.2 1 (show 1 < 2 by decide)) (by kernel_rfl) (by rfl) (by kernel_rfl) ?_))
  have HY := HX1.out.row 1 (show 1 < 2 by decide) (hoC hf0 none 0 0 1)
  exact bodyPost_ret (v := hoV hf0 none 0 0 1) (results_cell_row (P := Try.prog) Try.results13 _ _ (w.heap.size + 1) 29 _ (0, 0) _ rfl (HY.2 1 (show 1 < 2 by decide)) Try.underlying29 rfl (by kernel_rfl)) rfl ⟨ho_ill _ _ _, HY.1⟩
set_option maxHeartbeats 1000000 in
theorem impl_say_out (h : HfL) (k : Int) (w : World) (q : h.ok) (g : isN 1 4 k = false) : Calls Try.prog 13 #[hfL h, .int .i64 k] w fun e w' => HoIs w.heap.size (illH 1) e w' ∧ Below w.heap.size w w' := by
  have i1 := fun W => impl_right h W
  rw [decide_eq_true q] at i1
  have i2 := hf_kind k
  rw [g] at i2
  clear q
  go_enter Try.func13, Try.ntmps13
  go_wp2_with (first
    | (go_at_call 19; go_fit (i1 _); rintro e w1 ⟨rfl, hb⟩; have HX1 := Lib.hid ((bx2 w 24 29 (hfC h) hoZ).on hb); clear hb; obtain ⟨⟨c0, c1, c2, c3, c4⟩, _⟩ := hf_cells (b := w.heap.size) (HX1.out.2 0 (show 0 < 2 by decide)))
    | (go_at_call 38; go_fit (i2 _); rintro e w' ⟨rfl, rfl⟩)
    | (refine wpList_store_row rfl 29 _ _ rfl (w.heap.size + 1) _ rfl rfl 29 _ (HX1.out.2 1 (show 1 < 2 by decide)) (by kernel_rfl) (by rfl) (by kernel_rfl) ?_))
  have HY := HX1.out.row 1 (show 1 < 2 by decide) (hoC hf0 none 0 0 1)
  exact bodyPost_ret (v := hoV hf0 none 0 0 1) (results_cell_row (P := Try.prog) Try.results13 _ _ (w.heap.size + 1) 29 _ (0, 0) _ rfl (HY.2 1 (show 1 < 2 by decide)) Try.underlying29 rfl (by kernel_rfl)) rfl ⟨ho_ill _ _ _, HY.1⟩
set_option maxHeartbeats 1000000 in
theorem spec_say_bad (h : HfL) (k : Int) (w : World) (q : ¬ h.ok) : Calls Try.prog 17 #[hfL h, .int .i64 k] w fun e w' => HoIs w.heap.size (illH 1) e w' ∧ Below w.heap.size w w' := by
  have i1 := fun W => spec_right h W
  rw [decide_eq_false q] at i1
  clear q
  go_enter Try.func17, Try.ntmps17
  go_wp2_with (first
    | (go_at_call 20; go_fit (i1 _); rintro e w1 ⟨rfl, hb⟩; have HX1 := Lib.hid ((bx2 w 24 29 (hfC h) hoZ).on hb); clear hb; obtain ⟨⟨c0, c1, c2, c3, c4⟩, _⟩ := hf_cells (b := w.heap.size) (HX1.out.2 0 (show 0 < 2 by decide)))
    | (go_at_call 44; go_fit (spec_illH 1 _); rintro e w2 ⟨rfl, hb⟩; have HX2 := Lib.hid (HX1.out.on hb); clear hb)
    | (refine wpList_store_row rfl 29 _ _ rfl (w.heap.size + 1) _ rfl rfl 29 _ (HX2.out.2 1 (show 1 < 2 by decide)) (by kernel_rfl) (by rfl) (by kernel_rfl) ?_))
  have HY := HX2.out.row 1 (show 1 < 2 by decide) (hoC hf0 none 0 0 1)
  exact bodyPost_ret (v := hoV hf0 none 0 0 1) (results_cell_row (P := Try.prog) Try.results17 _ _ (w.heap.size + 1) 29 _ (0, 0) _ rfl (HY.2 1 (show 1 < 2 by decide)) Try.underlying29 rfl (by kernel_rfl)) rfl ⟨ho_ill _ _ _, HY.1⟩
set_option maxHeartbeats 1000000 in
theorem spec_say_out (h : HfL) (k : Int) (w : World) (q : h.ok) (g : isN 1 4 k = false) : Calls Try.prog 17 #[hfL h, .int .i64 k] w fun e w' => HoIs w.heap.size (illH 1) e w' ∧ Below w.heap.size w w' := by
  have i1 := fun W => spec_right h W
  rw [decide_eq_true q] at i1
  have i2 := hf_is k 1 4
  rw [g] at i2
  clear q
  go_enter Try.func17, Try.ntmps17
  go_wp2_with (first
    | (go_at_call 20; go_fit (i1 _); rintro e w1 ⟨rfl, hb⟩; have HX1 := Lib.hid ((bx2 w 24 29 (hfC h) hoZ).on hb); clear hb; obtain ⟨⟨c0, c1, c2, c3, c4⟩, _⟩ := hf_cells (b := w.heap.size) (HX1.out.2 0 (show 0 < 2 by decide)))
    | (go_at_call 43; go_fit (i2 _); rintro e w' ⟨rfl, rfl⟩)
    | (go_at_call 44; go_fit (spec_illH 1 _); rintro e w2 ⟨rfl, hb⟩; have HX2 := Lib.hid (HX1.out.on hb); clear hb)
    | (refine wpList_store_row rfl 29 _ _ rfl (w.heap.size + 1) _ rfl rfl 29 _ (HX2.out.2 1 (show 1 < 2 by decide)) (by kernel_rfl) (by rfl) (by kernel_rfl) ?_))
  have HY := HX2.out.row 1 (show 1 < 2 by decide) (hoC hf0 none 0 0 1)
  exact bodyPost_ret (v := hoV hf0 none 0 0 1) (results_cell_row (P := Try.prog) Try.results17 _ _ (w.heap.size + 1) 29 _ (0, 0) _ rfl (HY.2 1 (show 1 < 2 by decide)) Try.underlying29 rfl (by kernel_rfl)) rfl ⟨ho_ill _ _ _, HY.1⟩
set_option maxHeartbeats 1000000 in
theorem spec_say_in (h : HfL) (k : Int) (w : World) (q : h.ok) (k1 : 1 ≤ k) (k4 : k ≤ 4) : Calls Try.prog 17 #[hfL h, .int .i64 k] w fun e w' => HoIs w.heap.size (sayH h k) e w' ∧ Below w.heap.size w w' := by
  have i1 := fun W => spec_right h W
  rw [decide_eq_true q] at i1
  have i2 := hf_is k 1 4
  rw [isN_iff.2 ⟨k1, k4⟩] at i2
  have i3 := fun W => spec_l08say h k W q k1 k4
  obtain ⟨R, hR⟩ : ∃ R, sayH h k = R := ⟨_, rfl⟩
  rw [hR] at i3 ⊢
  clear q k1 k4 hR
  go_enter Try.func17, Try.ntmps17
  go_wp2_with (first
    | (go_at_call 20; go_fit (i1 _); rintro e w1 ⟨rfl, hb⟩; have HX1 := Lib.hid ((bx2 w 24 29 (hfC h) hoZ).on hb); clear hb; obtain ⟨⟨c0, c1, c2, c3, c4⟩, _⟩ := hf_cells (b := w.heap.size) (HX1.out.2 0 (show 0 < 2 by decide)))
    | (go_at_call 43; go_fit (i2 _); rintro e w' ⟨rfl, rfl⟩)
    | (go_at_call 45; go_fit (i3 _); rintro e w2 ⟨⟨p, c, rfl, ho⟩, hb⟩; have HX2 := Lib.hid (HX1.out.on hb); have HO := Lib.hid ho; have hlt := arr_ltH (HX1.out.2 1 (show 1 < 2 by decide)); clear hb ho)
    | (refine wpList_store_row rfl 29 _ _ rfl (w.heap.size + 1) _ rfl rfl 29 _ (HX2.out.2 1 (show 1 < 2 by decide)) (by kernel_rfl) (by rfl) (by kernel_rfl) ?_))
  have HY := HX2.out.row 1 (show 1 < 2 by decide) (hoC R.h p R.s.length c R.c)
  exact bodyPost_ret (v := hoV R.h p R.s.length c R.c) (results_cell_row (P := Try.prog) Try.results17 _ _ (w.heap.size + 1) 29 _ (0, 0) _ rfl (HY.2 1 (show 1 < 2 by decide)) Try.underlying29 rfl (by kernel_rfl)) rfl ⟨⟨p, c, rfl, (HO.out.setRowH hlt _).mono (Nat.le_of_lt (Nat.lt_of_le_of_lt (Nat.le_succ _) hlt))⟩, HY.1⟩
theorem sayR_bad {h : HfL} {k : Int} (q : ¬ h.ok) : sayR h k = illH 1 := if_neg (fun e => q e.1)
theorem sayR_out {h : HfL} {k : Int} (g : isN 1 4 k = false) : sayR h k = illH 1 := if_neg (fun e => by rw [isN_iff.2 e.2] at g; cases g)
theorem sayR_in {h : HfL} {k : Int} (q : h.ok) (g : isN 1 4 k = true) : sayR h k = sayH h k := if_pos ⟨q, isN_iff.1 g⟩
theorem spec_say (h : HfL) (k : Int) (w : World) : Calls Try.prog 17 #[hfL h, .int .i64 k] w fun e w' => HoIs w.heap.size (sayR h k) e w' ∧ Below w.heap.size w w' := by
  by_cases q : h.ok
  · cases g : isN 1 4 k
    · rw [sayR_out g]
      exact spec_say_out h k w q g
    · rw [sayR_in q g]
      exact spec_say_in h k w q (isN_iff.1 g).1 (isN_iff.1 g).2
  · rw [sayR_bad q]
    exact spec_say_bad h k w q
theorem impl_say (h : HfL) (k : Int) (w : World) : Calls Try.prog 13 #[hfL h, .int .i64 k] w fun e w' => HoIs w.heap.size (sayR h k) e w' ∧ Below w.heap.size w w' := by
  by_cases q : h.ok
  · cases g : isN 1 4 k
    · rw [sayR_out g]
      exact impl_say_out h k w q g
    · rw [sayR_in q g]
      exact impl_say_in h k w q (isN_iff.1 g).1 (isN_iff.1 g).2
  · rw [sayR_bad q]
    exact impl_say_bad h k w q
theorem sayR_len (h : HfL) (k : Int) : (sayR h k).s.length ≤ 1 := by
  unfold sayR sayH illH sentH
  repeat' split
  all_goals first | exact Nat.zero_le _ | exact Nat.le_refl _
end Go.Proofs.Ytgfpcmfcnphalaa
