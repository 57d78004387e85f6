/- spec.HalfHear. -/
import Derived.Test.YtgfpcmfcnphalaaHfSay
namespace Go.Proofs.Ytgfpcmfcnphalaa
set_option linter.unusedSimpArgs false
set_option linter.unusedVariables false
open Go.RowKit

abbrev sbL (x : SbL) : Value := .agg #[.int .i64 x.k, .int .i64 x.n]
theorem sub_box {w w1 : World} {k m : Int} {t : Nat} (hb : Below (w.alloc (.cells #[.int .i64 k, .int .i64 m] t)).heap.size (w.alloc (.cells #[.int .i64 k, .int .i64 m] t)) w1) :
    (w1.cell? ⟨w.heap.size, 0, none⟩ = some (.int .i64 k) ∧ w1.cell? ⟨w.heap.size, 1, none⟩ = some (.int .i64 m)) ∧ Below w.heap.size w w1 := by
  have hA : Arr w1 w.heap.size t [.int .i64 k, .int .i64 m] := (hb.block w.heap.size (by simp)).trans (Arr.fresh w t _)
  exact ⟨⟨hA.cell 0, hA.cell 1⟩, ((Below.refl _ _).alloc (Nat.le_refl _) _).trans (hb.mono (by simp))⟩
theorem spec_sub (k m : Int) (w : World) : Calls Try.prog 46 #[.agg #[.int .i64 k, .int .i64 m]] w fun e w' => e = .returned (.bool (isN 1 4 k && isN 1 1000000000 m)) ∧ Below w.heap.size w w' := by
  have i1 := fun W => hf_is k 1 4 W
  have i2 := fun W => hf_is m 1 1000000000 W
  obtain ⟨a, ha⟩ : ∃ a, isN 1 4 k = a := ⟨_, rfl⟩
  obtain ⟨b, hb⟩ : ∃ b, isN 1 1000000000 m = b := ⟨_, rfl⟩
  rw [ha] at i1 ⊢
  rw [hb] at i2 ⊢
  clear ha hb
  cases a <;> cases b
  all_goals (
    go_enter Try.func46, Try.ntmps46
    go_wp2_with (first | (go_at_call 43; go_fit (i1 _); rintro e w' ⟨rfl, rfl⟩) | (go_at_call 43; go_fit (i2 _); rintro e w' ⟨rfl, rfl⟩))
    go_ret
    exact ⟨rfl, (Below.refl _ _).alloc (Nat.le_refl _) _⟩)
set_option maxHeartbeats 1000000 in
theorem h1 (n o t i f m : Int) (w : World)  : Calls Try.prog 47 #[.agg #[.int .i64 n, .int .i64 o, .int .i64 t, .int .i64 i, .int .i64 f], .agg #[.int .i64 1, .int .i64 m]] w fun e w' => e = .returned (.agg #[.int .i64 n, .int .i64 o, .int .i64 t, .int .i64 m, .int .i64 0]) ∧ Below w.heap.size w w' := by
  go_enter Try.func47, Try.ntmps47
  go_wp2
  exact bodyPost_ret (v := .agg #[.int .i64 n, .int .i64 o, .int .i64 t, .int .i64 m, .int .i64 0]) (by simp [results, Try.results47, go_sem]) rfl ⟨rfl, (((Below.refl _ _).alloc (Nat.le_refl _) _).alloc (by simp) _).alloc (by simp; omega) _⟩
set_option maxHeartbeats 1000000 in
theorem h2a (n t i f m : Int) (w : World)  : Calls Try.prog 47 #[.agg #[.int .i64 n, .int .i64 m, .int .i64 t, .int .i64 i, .int .i64 f], .agg #[.int .i64 2, .int .i64 m]] w fun e w' => e = .returned (.agg #[.int .i64 n, .int .i64 0, .int .i64 m, .int .i64 i, .int .i64 f]) ∧ Below w.heap.size w w' := by
  go_enter Try.func47, Try.ntmps47
  go_wp2
  exact bodyPost_ret (v := .agg #[.int .i64 n, .int .i64 0, .int .i64 m, .int .i64 i, .int .i64 f]) (by simp [results, Try.results47, go_sem]) rfl ⟨rfl, (((Below.refl _ _).alloc (Nat.le_refl _) _).alloc (by simp) _).alloc (by simp; omega) _⟩
set_option maxHeartbeats 1000000 in
theorem h2b (n o t i f m : Int) (w : World) (g0 : (o == m) = false) : Calls Try.prog 47 #[.agg #[.int .i64 n, .int .i64 o, .int .i64 t, .int .i64 i, .int .i64 f], .agg #[.int .i64 2, .int .i64 m]] w fun e w' => e = .returned (.agg #[.int .i64 n, .int .i64 o, .int .i64 t, .int .i64 i, .int .i64 f]) ∧ Below w.heap.size w w' := by
  go_enter Try.func47, Try.ntmps47
  go_wp2
  exact bodyPost_ret (v := .agg #[.int .i64 n, .int .i64 o, .int .i64 t, .int .i64 i, .int .i64 f]) (by simp [results, Try.results47, go_sem]) rfl ⟨rfl, (((Below.refl _ _).alloc (Nat.le_refl _) _).alloc (by simp) _).alloc (by simp; omega) _⟩
set_option maxHeartbeats 1000000 in
theorem h3a (n o t m : Int) (w : World) (g0 : (0 == m) = false) : Calls Try.prog 47 #[.agg #[.int .i64 n, .int .i64 o, .int .i64 t, .int .i64 m, .int .i64 0], .agg #[.int .i64 3, .int .i64 m]] w fun e w' => e = .returned (.agg #[.int .i64 n, .int .i64 o, .int .i64 t, .int .i64 0, .int .i64 0]) ∧ Below w.heap.size w w' := by
  go_enter Try.func47, Try.ntmps47
  go_wp2
  exact bodyPost_ret (v := .agg #[.int .i64 n, .int .i64 o, .int .i64 t, .int .i64 0, .int .i64 0]) (by simp [results, Try.results47, go_sem]) rfl ⟨rfl, (((Below.refl _ _).alloc (Nat.le_refl _) _).alloc (by simp) _).alloc (by simp; omega) _⟩
set_option maxHeartbeats 1000000 in
theorem h3b (n o t m : Int) (w : World) (g0 : (0 == m) = false) : Calls Try.prog 47 #[.agg #[.int .i64 n, .int .i64 o, .int .i64 t, .int .i64 0, .int .i64 m], .agg #[.int .i64 3, .int .i64 m]] w fun e w' => e = .returned (.agg #[.int .i64 n, .int .i64 o, .int .i64 t, .int .i64 0, .int .i64 0]) ∧ Below w.heap.size w w' := by
  go_enter Try.func47, Try.ntmps47
  go_wp2
  exact bodyPost_ret (v := .agg #[.int .i64 n, .int .i64 o, .int .i64 t, .int .i64 0, .int .i64 0]) (by simp [results, Try.results47, go_sem]) rfl ⟨rfl, (((Below.refl _ _).alloc (Nat.le_refl _) _).alloc (by simp) _).alloc (by simp; omega) _⟩
set_option maxHeartbeats 1000000 in
theorem h3c (n o t i f m : Int) (w : World) (g0 : (i == m) = false) (g1 : (f == m) = false) : Calls Try.prog 47 #[.agg #[.int .i64 n, .int .i64 o, .int .i64 t, .int .i64 i, .int .i64 f], .agg #[.int .i64 3, .int .i64 m]] w fun e w' => e = .returned (.agg #[.int .i64 n, .int .i64 o, .int .i64 t, .int .i64 i, .int .i64 f]) ∧ Below w.heap.size w w' := by
  go_enter Try.func47, Try.ntmps47
  go_wp2
  exact bodyPost_ret (v := .agg #[.int .i64 n, .int .i64 o, .int .i64 t, .int .i64 i, .int .i64 f]) (by simp [results, Try.results47, go_sem]) rfl ⟨rfl, (((Below.refl _ _).alloc (Nat.le_refl _) _).alloc (by simp) _).alloc (by simp; omega) _⟩
set_option maxHeartbeats 1000000 in
theorem h4a (n i f m : Int) (w : World) (g0 : (0 == m) = false) : Calls Try.prog 47 #[.agg #[.int .i64 n, .int .i64 m, .int .i64 0, .int .i64 i, .int .i64 f], .agg #[.int .i64 4, .int .i64 m]] w fun e w' => e = .returned (.agg #[.int .i64 n, .int .i64 0, .int .i64 0, .int .i64 i, .int .i64 f]) ∧ Below w.heap.size w w' := by
  go_enter Try.func47, Try.ntmps47
  go_wp2
  exact bodyPost_ret (v := .agg #[.int .i64 n, .int .i64 0, .int .i64 0, .int .i64 i, .int .i64 f]) (by simp [results, Try.results47, go_sem]) rfl ⟨rfl, (((Below.refl _ _).alloc (Nat.le_refl _) _).alloc (by simp) _).alloc (by simp; omega) _⟩
set_option maxHeartbeats 1000000 in
theorem h4b (n i f m : Int) (w : World) (g0 : (0 == m) = false) : Calls Try.prog 47 #[.agg #[.int .i64 n, .int .i64 0, .int .i64 m, .int .i64 i, .int .i64 f], .agg #[.int .i64 4, .int .i64 m]] w fun e w' => e = .returned (.agg #[.int .i64 n, .int .i64 0, .int .i64 0, .int .i64 i, .int .i64 f]) ∧ Below w.heap.size w w' := by
  go_enter Try.func47, Try.ntmps47
  go_wp2
  exact bodyPost_ret (v := .agg #[.int .i64 n, .int .i64 0, .int .i64 0, .int .i64 i, .int .i64 f]) (by simp [results, Try.results47, go_sem]) rfl ⟨rfl, (((Below.refl _ _).alloc (Nat.le_refl _) _).alloc (by simp) _).alloc (by simp; omega) _⟩
set_option maxHeartbeats 1000000 in
theorem h4c (n o t i f m : Int) (w : World) (g0 : (o == m) = false) (g1 : (t == m) = false) : Calls Try.prog 47 #[.agg #[.int .i64 n, .int .i64 o, .int .i64 t, .int .i64 i, .int .i64 f], .agg #[.int .i64 4, .int .i64 m]] w fun e w' => e = .returned (.agg #[.int .i64 n, .int .i64 o, .int .i64 t, .int .i64 i, .int .i64 f]) ∧ Below w.heap.size w w' := by
  go_enter Try.func47, Try.ntmps47
  go_wp2
  exact bodyPost_ret (v := .agg #[.int .i64 n, .int .i64 o, .int .i64 t, .int .i64 i, .int .i64 f]) (by simp [results, Try.results47, go_sem]) rfl ⟨rfl, (((Below.refl _ _).alloc (Nat.le_refl _) _).alloc (by simp) _).alloc (by simp; omega) _⟩
theorem neM {x m : Int} (h : x ≠ m) : (x == m) = false := by simpa using h
theorem hear3 {h : HfL} {m : Int} (q : h.ok) (hm : 1 ≤ m) : hearH h ⟨3, m⟩ = if h.i + h.f = m then ⟨h.n, h.o, h.t, 0, 0⟩ else h := by
  obtain ⟨n, o, t, i, f⟩ := h
  obtain ⟨q0, q1, q2, q3, q4, q5, q6, q7, q8, q9, q10, q11⟩ := q
  dsimp only at q0 q1 q2 q3 q4 q5 q6 q7 q8 q9 q10 q11
  show (⟨n, o, t, if i = m then 0 else i, if f = m then 0 else f⟩ : HfL) = if i + f = m then ⟨n, o, t, 0, 0⟩ else ⟨n, o, t, i, f⟩
  rcases q11 with rfl | rfl
  · by_cases e : f = m
    · rw [if_neg (by omega), if_pos e, if_pos (by omega)]
    · rw [if_neg (by omega), if_neg e, if_neg (by omega)]
  · by_cases e : i = m
    · rw [if_pos e, if_neg (by omega), if_pos (by omega)]
    · rw [if_neg e, if_neg (by omega), if_neg (by omega)]
theorem hear4 {h : HfL} {m : Int} (q : h.ok) (hm : 1 ≤ m) : hearH h ⟨4, m⟩ = if h.o + h.t = m then ⟨h.n, 0, 0, h.i, h.f⟩ else h := by
  obtain ⟨n, o, t, i, f⟩ := h
  obtain ⟨q0, q1, q2, q3, q4, q5, q6, q7, q8, q9, q10, q11⟩ := q
  dsimp only at q0 q1 q2 q3 q4 q5 q6 q7 q8 q9 q10 q11
  show (⟨n, if o = m then 0 else o, if t = m then 0 else t, i, f⟩ : HfL) = if o + t = m then ⟨n, 0, 0, i, f⟩ else ⟨n, o, t, i, f⟩
  rcases q6 with rfl | rfl
  · by_cases e : t = m
    · rw [if_neg (by omega), if_pos e, if_pos (by omega)]
    · rw [if_neg (by omega), if_neg e, if_neg (by omega)]
  · by_cases e : o = m
    · rw [if_pos e, if_neg (by omega), if_pos (by omega)]
    · rw [if_neg e, if_neg (by omega), if_neg (by omega)]
theorem spec_l08hear (h : HfL) (k m : Int) (w : World) (q : h.ok) (k1 : 1 ≤ k) (k4 : k ≤ 4) (m1 : 1 ≤ m) : Calls Try.prog 47 #[hfL h, .agg #[.int .i64 k, .int .i64 m]] w fun e w' => e = .returned (hfL (hearH h ⟨k, m⟩)) ∧ Below w.heap.size w w' := by
  have hk : k = 1 ∨ k = 2 ∨ k = 3 ∨ k = 4 := by omega
  rcases hk with rfl | rfl | rfl | rfl
  · exact h1 h.n h.o h.t h.i h.f m w
  · have e : hearH h ⟨2, m⟩ = if h.o = m then ⟨h.n, 0, m, h.i, h.f⟩ else h := rfl
    rw [e]
    by_cases ho : h.o = m
    · rw [if_pos ho]
      obtain ⟨n, o, t, i, f⟩ := h
      dsimp only at ho
      subst ho
      exact h2a n t i f o w
    · rw [if_neg ho]
      exact h2b h.n h.o h.t h.i h.f m w (neM ho)
  · rw [hear3 q m1]
    obtain ⟨n, o, t, i, f⟩ := h
    obtain ⟨q0, q1, q2, q3, q4, q5, q6, q7, q8, q9, q10, q11⟩ := q
    dsimp only at q0 q1 q2 q3 q4 q5 q6 q7 q8 q9 q10 q11 ⊢
    by_cases e : i + f = m
    · rw [if_pos e]
      rcases q11 with rfl | rfl
      · obtain rfl : f = m := by omega
        exact h3b n o t f w (neM (by omega))
      · obtain rfl : i = m := by omega
        exact h3a n o t i w (neM (by omega))
    · rw [if_neg e]
      exact h3c n o t i f m w (neM (by omega)) (neM (by omega))
  · rw [hear4 q m1]
    obtain ⟨n, o, t, i, f⟩ := h
    obtain ⟨q0, q1, q2, q3, q4, q5, q6, q7, q8, q9, q10, q11⟩ := q
    dsimp only at q0 q1 q2 q3 q4 q5 q6 q7 q8 q9 q10 q11 ⊢
    by_cases e : o + t = m
    · rw [if_pos e]
      rcases q6 with rfl | rfl
      · obtain rfl : t = m := by omega
        exact h4b n i f t w (neM (by omega))
      · obtain rfl : o = m := by omega
        exact h4a n i f o w (neM (by omega))
    · rw [if_neg e]
      exact h4c n o t i f m w (neM (by omega)) (neM (by omega))
theorem hearR_bad {h : HfL} {x : SbL} (q : ¬ h.ok) : hearR h x = illH 1 := if_neg (fun e => q e.1)
theorem hearR_sub {h : HfL} {k m : Int} (g : (isN 1 4 k && isN 1 1000000000 m) = false) : hearR h ⟨k, m⟩ = illH 1 := if_neg (fun e => by
  rw [isN_iff.2 ⟨e.2.1, e.2.2.1⟩, isN_iff.2 e.2.2.2] at g
  cases g)
theorem hearR_in {h : HfL} {k m : Int} (q : h.ok) (g : (isN 1 4 k && isN 1 1000000000 m) = true) : hearR h ⟨k, m⟩ = ⟨hearH h ⟨k, m⟩, [], 0⟩ := by
  rw [Bool.and_eq_true] at g
  exact if_pos ⟨q, (isN_iff.1 g.1).1, (isN_iff.1 g.1).2, isN_iff.1 g.2⟩
theorem ho_none (h : HfL) (B : Nat) (w : World) : HoIs B ⟨h, [], 0⟩ (.returned (hoV h none 0 0 0)) w := ⟨none, 0, rfl, ownC_nil _ _ _ _ _⟩
theorem sb_cells {W : World} {b t : Nat} {k m : Int} (hA : Arr W b t [.int .i64 k, .int .i64 m]) : W.cell? ⟨b, 0, none⟩ = some (.int .i64 k) ∧ W.cell? ⟨b, 1, none⟩ = some (.int .i64 m) := ⟨hA.cell 0, hA.cell 1⟩
set_option maxHeartbeats 1000000 in
theorem spec_hear_bad (h : HfL) (k m : Int) (w : World) (q : ¬ h.ok) : Calls Try.prog 18 #[hfL h, .agg #[.int .i64 k, .int .i64 m]] w fun e w' => HoIs w.heap.size (illH 1) e w' ∧ Below w.heap.size w w' := by
  have i1 := fun W => spec_right h W
  rw [decide_eq_false q] at i1
  clear q
  go_enter Try.func18, Try.ntmps18
  go_wp2_with (first
    | (go_at_call 20; go_fit (i1 _); rintro e w1 ⟨rfl, hb⟩; have HX1 := Lib.hid ((bx3 w 24 32 29 (hfC h) [.int .i64 k, .int .i64 m] hoZ).on hb); clear hb; obtain ⟨⟨c0, c1, c2, c3, c4⟩, _⟩ := hf_cells (b := w.heap.size) (HX1.out.2 0 (show 0 < 3 by decide)); obtain ⟨s0, s1⟩ := sb_cells (b := w.heap.size + 1) (HX1.out.2 1 (show 1 < 3 by decide)))
    | (go_at_call 44; go_fit (spec_illH 1 _); rintro e w3 ⟨rfl, hb⟩; have HX3 := Lib.hid (HX1.out.on hb); clear hb)
    | (refine wpList_store_row rfl 29 _ _ rfl (w.heap.size + 2) _ rfl rfl 29 _ (HX3.out.2 2 (show 2 < 3 by decide)) (by kernel_rfl) (by rfl) (by kernel_rfl) ?_))
  have HY := HX3.out.row 2 (show 2 < 3 by decide) (hoC hf0 none 0 0 1)
  exact bodyPost_ret (v := hoV hf0 none 0 0 1) (results_cell_row (P := Try.prog) Try.results18 _ _ (w.heap.size + 2) 29 _ (0, 0) _ rfl (HY.2 2 (show 2 < 3 by decide)) Try.underlying29 rfl (by kernel_rfl)) rfl ⟨ho_ill _ _ _, HY.1⟩
set_option maxHeartbeats 1000000 in
theorem spec_hear_sub (h : HfL) (k m : Int) (w : World) (q : h.ok) (g : (isN 1 4 k && isN 1 1000000000 m) = false) : Calls Try.prog 18 #[hfL h, .agg #[.int .i64 k, .int .i64 m]] w fun e w' => HoIs w.heap.size (illH 1) e w' ∧ Below w.heap.size w w' := by
  have i1 := fun W => spec_right h W
  rw [decide_eq_true q] at i1
  have i2 := fun W => spec_sub k m W
  rw [g] at i2
  clear q
  go_enter Try.func18, Try.ntmps18
  go_wp2_with (first
    | (go_at_call 20; go_fit (i1 _); rintro e w1 ⟨rfl, hb⟩; have HX1 := Lib.hid ((bx3 w 24 32 29 (hfC h) [.int .i64 k, .int .i64 m] hoZ).on hb); clear hb; obtain ⟨⟨c0, c1, c2, c3, c4⟩, _⟩ := hf_cells (b := w.heap.size) (HX1.out.2 0 (show 0 < 3 by decide)); obtain ⟨s0, s1⟩ := sb_cells (b := w.heap.size + 1) (HX1.out.2 1 (show 1 < 3 by decide)))
    | (go_at_call 46; go_fit (i2 _); rintro e w2 ⟨rfl, hb⟩; have HX2 := Lib.hid (HX1.out.on hb); clear hb)
    | (go_at_call 44; go_fit (spec_illH 1 _); rintro e w3 ⟨rfl, hb⟩; have HX3 := Lib.hid (HX2.out.on hb); clear hb)
    | (refine wpList_store_row rfl 29 _ _ rfl (w.heap.size + 2) _ rfl rfl 29 _ (HX3.out.2 2 (show 2 < 3 by decide)) (by kernel_rfl) (by rfl) (by kernel_rfl) ?_))
  have HY := HX3.out.row 2 (show 2 < 3 by decide) (hoC hf0 none 0 0 1)
  exact bodyPost_ret (v := hoV hf0 none 0 0 1) (results_cell_row (P := Try.prog) Try.results18 _ _ (w.heap.size + 2) 29 _ (0, 0) _ rfl (HY.2 2 (show 2 < 3 by decide)) Try.underlying29 rfl (by kernel_rfl)) rfl ⟨ho_ill _ _ _, HY.1⟩
set_option maxHeartbeats 1000000 in
theorem spec_hear_in (h : HfL) (k m : Int) (w : World) (q : h.ok) (g : (isN 1 4 k && isN 1 1000000000 m) = true) : Calls Try.prog 18 #[hfL h, .agg #[.int .i64 k, .int .i64 m]] w fun e w' => HoIs w.heap.size ⟨hearH h ⟨k, m⟩, [], 0⟩ e w' ∧ Below w.heap.size w w' := by
  have i1 := fun W => spec_right h W
  rw [decide_eq_true q] at i1
  have i2 := fun W => spec_sub k m W
  have g' := g
  rw [Bool.and_eq_true] at g'
  have i3 := fun W => spec_l08hear h k m W q (isN_iff.1 g'.1).1 (isN_iff.1 g'.1).2 (isN_iff.1 g'.2).1
  rw [g] at i2
  obtain ⟨R, hR⟩ : ∃ R, hearH h ⟨k, m⟩ = R := ⟨_, rfl⟩
  rw [hR] at i3 ⊢
  clear q g g' hR
  go_enter Try.func18, Try.ntmps18
  go_wp2_with (first
    | (go_at_call 20; go_fit (i1 _); rintro e w1 ⟨rfl, hb⟩; have HX1 := Lib.hid ((bx3 w 24 32 29 (hfC h) [.int .i64 k, .int .i64 m] hoZ).on hb); clear hb; obtain ⟨⟨c0, c1, c2, c3, c4⟩, _⟩ := hf_cells (b := w.heap.size) (HX1.out.2 0 (show 0 < 3 by decide)); obtain ⟨s0, s1⟩ := sb_cells (b := w.heap.size + 1) (HX1.out.2 1 (show 1 < 3 by decide)))
    | (go_at_call 46; go_fit (i2 _); rintro e w2 ⟨rfl, hb⟩; have HX2 := Lib.hid (HX1.out.on hb); clear hb c0 c1 c2 c3 c4 s0 s1; obtain ⟨⟨c0, c1, c2, c3, c4⟩, _⟩ := hf_cells (b := w.heap.size) (HX2.out.2 0 (show 0 < 3 by decide)); obtain ⟨s0, s1⟩ := sb_cells (b := w.heap.size + 1) (HX2.out.2 1 (show 1 < 3 by decide)))
    | (go_at_call 47; go_fit (i3 _); rintro e w3 ⟨rfl, hb⟩; have HX3 := Lib.hid (HX2.out.on hb); clear hb)
    | (refine wpList_store_row rfl 29 _ _ rfl (w.heap.size + 2) _ rfl rfl 29 _ (HX3.out.2 2 (show 2 < 3 by decide)) (by kernel_rfl) (by rfl) (by kernel_rfl) ?_))
  have HY := HX3.out.row 2 (show 2 < 3 by decide) (hoC R none 0 0 0)
  exact bodyPost_ret (v := hoV R none 0 0 0) (results_cell_row (P := Try.prog) Try.results18 _ _ (w.heap.size + 2) 29 _ (0, 0) _ rfl (HY.2 2 (show 2 < 3 by decide)) Try.underlying29 rfl (by kernel_rfl)) rfl ⟨ho_none _ _ _, HY.1⟩
theorem spec_hear (h : HfL) (x : SbL) (w : World) : Calls Try.prog 18 #[hfL h, sbL x] w fun e w' => HoIs w.heap.size (hearR h x) e w' ∧ Below w.heap.size w w' := by
  obtain ⟨k, m⟩ := x
  by_cases q : h.ok
  · cases g : (isN 1 4 k && isN 1 1000000000 m)
    · rw [hearR_sub g]
      exact spec_hear_sub h k m w q g
    · rw [hearR_in q g]
      exact spec_hear_in h k m w q g
  · rw [hearR_bad q]
    exact spec_hear_bad h k m w q
end Go.Proofs.Ytgfpcmfcnphalaa
