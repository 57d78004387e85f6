/- impl.HalfRight and spec.HalfRight. -/
import Derived.Test.YtgfpcmfcnphalaaHfMath
import Derived.Test.YtgfpcmfcnphalaaEqSub
import Derived.Deep.DeepFit
namespace Go.Proofs.Ytgfpcmfcnphalaa
set_option linter.unusedSimpArgs false
set_option linter.unusedVariables false
open Go.RowKit

abbrev hfL (h : HfL) : Value := .agg #[.int .i64 h.n, .int .i64 h.o, .int .i64 h.t, .int .i64 h.i, .int .i64 h.f]
/-- A number in its limits. -/
def isN (l h z : Int) : Bool := decide (l ≤ z) && decide (z ≤ h)
def reqB (p g l : Int) : Bool := decide (((p = 0 ∧ 0 ≤ g) ∨ (g = 0 ∧ 0 ≤ p)) ∧ p ≤ l ∧ g ≤ l)
theorem hf_time (n : Int) (w : World) : Calls Try.prog 42 #[.int .i64 n] w fun e w' => e = .returned (.bool (isN 0 1000000000 n)) ∧ w' = w := by
  obtain ⟨b, hb⟩ : ∃ b, isN 0 1000000000 n = b := ⟨_, rfl⟩
  have HB := Lib.hid hb
  rw [hb]
  clear hb
  go_enter Try.func42, Try.ntmps42
  go_wp2
  all_goals (go_ret; exact ⟨ret_bool (by rw [← HB.out]; unfold isN; simp; try omega), rfl⟩)
theorem hf_request (p g l : Int) (w : World) : Calls Try.prog 48 #[.int .i64 p, .int .i64 g, .int .i64 l] w fun e w' => e = .returned (.bool (reqB p g l)) ∧ w' = w := by
  obtain ⟨b, hb⟩ : ∃ b, reqB p g l = b := ⟨_, rfl⟩
  have HB := Lib.hid hb
  rw [hb]
  clear hb
  go_enter Try.func48, Try.ntmps48
  go_wp2
  all_goals (go_ret; exact ⟨ret_bool (by rw [← HB.out]; unfold reqB; first | (rw [decide_eq_decide]; omega) | (symm; rw [decide_eq_false_iff_not]; omega) | (symm; rw [decide_eq_true_iff]; omega)), rfl⟩)
theorem hf_is (z lo hi : Int) (w : World) : Calls Try.prog 43 #[.int .i64 z, .int .i64 lo, .int .i64 hi] w fun e w' => e = .returned (.bool (isN lo hi z)) ∧ w' = w := by
  obtain ⟨b, hb⟩ : ∃ b, isN lo hi z = b := ⟨_, rfl⟩
  have HB := Lib.hid hb
  rw [hb]
  clear hb
  go_enter Try.func43, Try.ntmps43
  go_wp2
  all_goals (go_ret; exact ⟨ret_bool (by rw [← HB.out]; unfold isN; simp; try omega), rfl⟩)
theorem hf_cells {W : World} {b t : Nat} {h : HfL} (hA : Arr W b t (hfC h)) :
    (W.cell? ⟨b, 0, none⟩ = some (.int .i64 h.n) ∧ W.cell? ⟨b, 1, none⟩ = some (.int .i64 h.o) ∧ W.cell? ⟨b, 2, none⟩ = some (.int .i64 h.t) ∧ W.cell? ⟨b, 3, none⟩ = some (.int .i64 h.i) ∧ W.cell? ⟨b, 4, none⟩ = some (.int .i64 h.f)) ∧
    (W.frozen? ⟨b, 0, none⟩ = false ∧ W.frozen? ⟨b, 1, none⟩ = false ∧ W.frozen? ⟨b, 2, none⟩ = false ∧ W.frozen? ⟨b, 3, none⟩ = false ∧ W.frozen? ⟨b, 4, none⟩ = false) :=
  ⟨⟨hA.cell 0, hA.cell 1, hA.cell 2, hA.cell 3, hA.cell 4⟩, hA.free 0, hA.free 1, hA.free 2, hA.free 3, hA.free 4⟩
/-- The half's box behind a call. -/
theorem hf_box {w w1 : World} {h : HfL} {t : Nat} (hb : Below (w.alloc (.cells #[.int .i64 h.n, .int .i64 h.o, .int .i64 h.t, .int .i64 h.i, .int .i64 h.f] t)).heap.size (w.alloc (.cells #[.int .i64 h.n, .int .i64 h.o, .int .i64 h.t, .int .i64 h.i, .int .i64 h.f] t)) w1) :
    Arr w1 w.heap.size t (hfC h) ∧ Below w.heap.size w w1 :=
  ⟨(hb.block w.heap.size (by simp)).trans (Arr.fresh w t (hfC h)), ((Below.refl _ _).alloc (Nat.le_refl _) _).trans (hb.mono (by simp))⟩
theorem ok_eq (h : HfL) : decide h.ok = (isN 0 1000000000 h.n && (reqB h.o h.t h.n && reqB h.i h.f 1000000000)) := by
  rw [Bool.eq_iff_iff, decide_eq_true_iff]
  simp only [isN, reqB, HfL.ok, Bool.and_eq_true, decide_eq_true_eq]
  obtain ⟨n, o, t, i, f⟩ := h
  constructor
  · rintro ⟨h1, h2, h3, h4, h5, h6, h7, h8, h9, h10, h11, h12⟩
    dsimp only at *
    omega
  · rintro ⟨⟨h1, h2⟩, ⟨h3, h4, h5⟩, h6, h7, h8⟩
    dsimp only at *
    omega
theorem impl_right (h : HfL) (w : World) : Calls Try.prog 19 #[hfL h] w fun e w' => e = .returned (.bool (decide h.ok)) ∧ Below w.heap.size w w' := by
  obtain ⟨b, hb⟩ : ∃ b, decide h.ok = b := ⟨_, rfl⟩
  have HB := Lib.hid hb
  rw [hb]
  clear hb
  go_enter Try.func19, Try.ntmps19
  go_wp2_with (first
    | (go_at_call 42; go_fit (hf_time _ _); rintro e w' ⟨rfl, rfl⟩; (obtain ⟨b1, hb1⟩ : ∃ b, isN 0 1000000000 h.n = b := ⟨_, rfl⟩); have HB1 := Lib.hid hb1; rw [hb1]; clear hb1; cases b1)
    | (go_at_call 48; go_fit (hf_request h.i h.f _ _); rintro e w' ⟨rfl, rfl⟩; (obtain ⟨b1, hb1⟩ : ∃ b, reqB h.i h.f 1000000000 = b := ⟨_, rfl⟩); have HB3 := Lib.hid hb1; rw [hb1]; clear hb1; cases b1)
    | (go_at_call 48; go_fit (hf_request h.o h.t _ _); rintro e w' ⟨rfl, rfl⟩; (obtain ⟨b1, hb1⟩ : ∃ b, reqB h.o h.t h.n = b := ⟨_, rfl⟩); have HB2 := Lib.hid hb1; rw [hb1]; clear hb1; cases b1))
  all_goals (go_ret; exact ⟨ret_bool (by rw [← HB.out, ok_eq, HB1.out]; first | rfl | (rw [HB2.out]; first | rfl | (rw [HB3.out]; rfl))), (Below.refl _ _).alloc (Nat.le_refl _) _⟩)
set_option maxHeartbeats 400000 in
theorem spec_right (h : HfL) (w : World) : Calls Try.prog 20 #[hfL h] w fun e w' => e = .returned (.bool (decide h.ok)) ∧ Below w.heap.size w w' := by
  obtain ⟨b, hb⟩ : ∃ b, decide h.ok = b := ⟨_, rfl⟩
  have HB := Lib.hid hb
  rw [hb]
  clear hb
  go_enter Try.func20, Try.ntmps20
  go_wp2_with (first
    | (go_at_call 43; go_fit (hf_is h.n 0 1000000000 _); rintro e w' ⟨rfl, rfl⟩; (obtain ⟨b1, hb1⟩ : ∃ b, isN 0 1000000000 h.n = b := ⟨_, rfl⟩); have HB0 := Lib.hid hb1; rw [hb1]; clear hb1; cases b1)
    | (go_at_call 43; go_fit (hf_is h.o 0 h.n _); rintro e w' ⟨rfl, rfl⟩; (obtain ⟨b1, hb1⟩ : ∃ b, isN 0 h.n h.o = b := ⟨_, rfl⟩); have HB1 := Lib.hid hb1; rw [hb1]; clear hb1; cases b1)
    | (go_at_call 43; go_fit (hf_is h.t 0 h.n _); rintro e w' ⟨rfl, rfl⟩; (obtain ⟨b1, hb1⟩ : ∃ b, isN 0 h.n h.t = b := ⟨_, rfl⟩); have HB2 := Lib.hid hb1; rw [hb1]; clear hb1; cases b1)
    | (go_at_call 43; go_fit (hf_is h.i 0 1000000000 _); rintro e w' ⟨rfl, rfl⟩; (obtain ⟨b1, hb1⟩ : ∃ b, isN 0 1000000000 h.i = b := ⟨_, rfl⟩); have HB3 := Lib.hid hb1; rw [hb1]; clear hb1; cases b1)
    | (go_at_call 43; go_fit (hf_is h.f 0 1000000000 _); rintro e w' ⟨rfl, rfl⟩; (obtain ⟨b1, hb1⟩ : ∃ b, isN 0 1000000000 h.f = b := ⟨_, rfl⟩); have HB4 := Lib.hid hb1; rw [hb1]; clear hb1; cases b1))
  all_goals (go_ret; refine ⟨ret_bool ?_, (Below.refl _ _).alloc (Nat.le_refl _) _⟩; rw [← HB.out]; (try (have q0 := HB0.out; simp only [isN, Bool.and_eq_true, Bool.and_eq_false_iff, decide_eq_true_eq, decide_eq_false_iff_not] at q0)); (try (have q1 := HB1.out; simp only [isN, Bool.and_eq_true, Bool.and_eq_false_iff, decide_eq_true_eq, decide_eq_false_iff_not] at q1)); (try (have q2 := HB2.out; simp only [isN, Bool.and_eq_true, Bool.and_eq_false_iff, decide_eq_true_eq, decide_eq_false_iff_not] at q2)); (try (have q3 := HB3.out; simp only [isN, Bool.and_eq_true, Bool.and_eq_false_iff, decide_eq_true_eq, decide_eq_false_iff_not] at q3)); (try (have q4 := HB4.out; simp only [isN, Bool.and_eq_true, Bool.and_eq_false_iff, decide_eq_true_eq, decide_eq_false_iff_not] at q4)); symm; first | (rw [Bool.eq_iff_iff, decide_eq_true_iff, Bool.or_eq_true, beq_iff_eq, beq_iff_eq]; unfold HfL.ok; omega) | (rw [decide_eq_true_iff]; unfold HfL.ok; omega) | (rw [decide_eq_false_iff_not]; unfold HfL.ok; omega))
def sBoth : ByteArray := ⟨#[98, 111, 116, 104]⟩
def sTo : ByteArray := ⟨#[116, 111]⟩
def sFrom : ByteArray := ⟨#[102, 114, 111, 109]⟩
def sNone : ByteArray := ⟨#[110, 111, 110, 101]⟩
/-- What a half shows. -/
def showH (h : HfL) : ByteArray := if h.ok then (if h.t ≠ 0 ∧ h.f ≠ 0 then sBoth else if h.t ≠ 0 then sTo else if h.f ≠ 0 then sFrom else sNone) else ⟨#[]⟩
theorem impl_show (h : HfL) (w : World) : Calls Try.prog 26 #[hfL h] w fun e w' => e = .returned (.string (showH h)) ∧ Below w.heap.size w w' := by
  obtain ⟨s, hs⟩ : ∃ s, showH h = s := ⟨_, rfl⟩
  have HS := Lib.hid hs
  rw [hs]
  clear hs
  go_enter Try.func26, Try.ntmps26
  go_wp2_with (go_at_call 19; go_fit (impl_right h _); rintro e w' ⟨rfl, hb⟩; (obtain ⟨hA, hb⟩ := hf_box hb); (obtain ⟨⟨c0, c1, c2, c3, c4⟩, _⟩ := hf_cells hA); clear hA; (obtain ⟨b1, hb1⟩ : ∃ b, decide h.ok = b := ⟨_, rfl⟩); have HB1 := Lib.hid hb1; rw [hb1]; clear hb1; cases b1)
  all_goals (go_ret; refine ⟨ret_str ?_, hb⟩; rw [← HS.out]; unfold showH; first | exact (if_neg (of_decide_eq_false HB1.out)).symm | (rw [if_pos (of_decide_eq_true HB1.out)]; simp_all [sBoth, sTo, sFrom, sNone]))
theorem spec_show (h : HfL) (w : World) : Calls Try.prog 27 #[hfL h] w fun e w' => e = .returned (.string (showH h)) ∧ Below w.heap.size w w' := by
  obtain ⟨s, hs⟩ : ∃ s, showH h = s := ⟨_, rfl⟩
  have HS := Lib.hid hs
  rw [hs]
  clear hs
  go_enter Try.func27, Try.ntmps27
  go_wp2_with (go_at_call 20; go_fit (spec_right h _); rintro e w' ⟨rfl, hb⟩; (obtain ⟨hA, hb⟩ := hf_box hb); (obtain ⟨⟨c0, c1, c2, c3, c4⟩, _⟩ := hf_cells hA); clear hA; (obtain ⟨b1, hb1⟩ : ∃ b, decide h.ok = b := ⟨_, rfl⟩); have HB1 := Lib.hid hb1; rw [hb1]; clear hb1; cases b1)
  all_goals (go_ret; refine ⟨ret_str ?_, hb⟩; rw [← HS.out]; unfold showH; first | exact (if_neg (of_decide_eq_false HB1.out)).symm | (rw [if_pos (of_decide_eq_true HB1.out)]; simp_all [sBoth, sTo, sFrom, sNone]))
end Go.Proofs.Ytgfpcmfcnphalaa
