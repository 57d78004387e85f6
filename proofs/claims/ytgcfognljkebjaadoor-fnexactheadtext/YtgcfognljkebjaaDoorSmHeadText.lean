/- What impl.HeadText and spec.HeadText answer. -/
import Derived.Test.YtgcfognljkebjaaDoorSmHead
import Derived.Test.YtgcfognljkebjaaDoorStTextI
import Derived.Test.YtgcfognljkebjaaDoorStTextS
namespace Go.Proofs.YtgcfognljkebjaaDoor
set_option linter.unusedSimpArgs false
set_option linter.unusedVariables false
open Go.RowKit Go.Joins

/-- The line that opens a stream. -/
def hdL (f o : List UInt8) (n : Int) : List UInt8 := [60, 115, 116, 114, 101, 97, 109, 32, 102, 114, 111, 109, 61, 39] ++ (f ++ ([39, 32, 116, 111, 61, 39] ++ (o ++ ([39, 32, 105, 100, 61, 39] ++ (idL n ++ [39, 62])))))
noncomputable def hdT (f o : ByteArray) (n : Int) : ByteArray := if hdB f o n = true then strOf (hdL f.data.toList o.data.toList n) else ⟨#[]⟩
theorem hdB_le {f o : ByteArray} {n : Int} (h : hdB f o n = true) : f.size ≤ 30 ∧ o.size ≤ 30 ∧ 1 ≤ n ∧ n ≤ 1000000000 := by
  unfold hdB at h
  simp only [Bool.and_eq_true, decide_eq_true_eq] at h
  obtain ⟨⟨h1, h2⟩, h3, h4⟩ := h
  have a1 := (domB_iff.1 h1).2.1
  have a2 := (domB_iff.1 h2).2.1
  unfold partB at a1 a2
  simp only [Bool.and_eq_true, decide_eq_true_eq] at a1 a2
  exact ⟨a1.1, a2.1, h3, h4⟩
theorem box_three {w w1 : World} {a b c : Value} {t : Nat} (h : Below (w.alloc (.cells #[a, b, c] t)).heap.size (w.alloc (.cells #[a, b, c] t)) w1) :
    (w1.cell? ⟨w.heap.size, 0, none⟩ = some a ∧ w1.cell? ⟨w.heap.size, 1, none⟩ = some b ∧ w1.cell? ⟨w.heap.size, 2, none⟩ = some c) ∧ Below (w.alloc (.cells #[a, b, c] t)).heap.size (w.alloc (.cells #[a, b, c] t)) w1 := by
  have hA : Arr w1 w.heap.size t [a, b, c] := (h.block w.heap.size (by simp)).trans (Arr.fresh w t [a, b, c])
  exact ⟨⟨hA.cell 0, hA.cell 1, hA.cell 2⟩, h⟩
set_option maxRecDepth 100000 in
set_option maxHeartbeats 2000000 in
theorem impl_hdtext (f o : ByteArray) (n : Int) (w : World) (hf : f.size ≤ maxLen) (ho : o.size ≤ maxLen) (hm : MaxL w) (hp : TabP w) :
    Calls Tryd.prog 7 #[.agg #[.string f, .string o, .int .i64 n]] w fun e w' => e = .returned (.string (hdT f o n)) ∧ Below w.heap.size w w' := by
  have i0 := fun w hm => impl_head f o n w hf ho hm
  have HM := Lib.hid (fun W (h : Below (w.alloc (.cells #[.string f, .string o, .int .i64 n] 26)).heap.size (w.alloc (.cells #[.string f, .string o, .int .i64 n] 26)) W) => hm.below (below_one h) hm.pos)
  have HK := Lib.hid (fun W (h : Below (w.alloc (.cells #[.string f, .string o, .int .i64 n] 26)).heap.size (w.alloc (.cells #[.string f, .string o, .int .i64 n] 26)) W) => (box_three h).1)
  have HT := Lib.hid (fun W (h : Below (w.alloc (.cells #[.string f, .string o, .int .i64 n] 26)).heap.size (w.alloc (.cells #[.string f, .string o, .int .i64 n] 26)) W) => hp.below (below_one h))
  clear hm hp
  unfold hdT
  by_cases hst : hdB f o n = true
  · obtain ⟨hf3, ho3, hn0, hn1⟩ := hdB_le hst
    rw [if_pos hst]
    rw [hst] at i0
    clear hst hf ho
    have hid := id_len (show 0 ≤ n by omega) hn1
    have i4 : ∀ w, TabP w → Calls Tryd.prog 12 #[.int .i64 n, .int .i64 10] w fun e w' => e = .returned (.string (strOf (idL n))) ∧ Below w.heap.size w w' := fun w ht =>
      (Tryd.strconv_FormatInt_10 n (by omega) (by omega) w ht).mono fun e w' ⟨he, kk, os, hw⟩ => ⟨by rw [he]; unfold idL; rw [if_neg (by omega)]; rfl, by rw [hw]; exact Lib.below_grow _ w (Nat.le_refl _) kk os⟩
    obtain ⟨D, hD⟩ : ∃ D, D = strOf (idL n) := ⟨_, rfl⟩
    have HH : Hid (flat [⟨#[60, 115, 116, 114, 101, 97, 109, 32, 102, 114, 111, 109, 61, 39]⟩, f, ⟨#[39, 32, 116, 111, 61, 39]⟩, o, ⟨#[39, 32, 105, 100, 61, 39]⟩, D, ⟨#[39, 62]⟩] = hdL f.data.toList o.data.toList n) := Lib.hid (by rw [hD]; simp [flat, hdL, strOf_data])
    have HL : Hid ((hdL f.data.toList o.data.toList n).length ≤ 20000000) := Lib.hid (by
      have := size_data f
      have := size_data o
      simp [hdL]
      omega)
    obtain ⟨X, hX⟩ : ∃ X, X = strOf (hdL f.data.toList o.data.toList n) := ⟨_, rfl⟩
    have i6 : ∀ w : World, Calls Tryd.prog 11 #[.slice (some ⟨w.heap.size, 0, none⟩) 7 7] (w.alloc (.cells #[.string ⟨#[60, 115, 116, 114, 101, 97, 109, 32, 102, 114, 111, 109, 61, 39]⟩, .string f, .string ⟨#[39, 32, 116, 111, 61, 39]⟩, .string o, .string ⟨#[39, 32, 105, 100, 61, 39]⟩, .string D, .string ⟨#[39, 62]⟩] 9)) fun e w' => e = .returned (.string X) ∧ Below w.heap.size w w' := fun w => by
      have := joined_new w [⟨#[60, 115, 116, 114, 101, 97, 109, 32, 102, 114, 111, 109, 61, 39]⟩, f, ⟨#[39, 32, 116, 111, 61, 39]⟩, o, ⟨#[39, 32, 105, 100, 61, 39]⟩, D, ⟨#[39, 62]⟩] (by simp) (by rw [HH.out]; have := HL.out; omega)
      rw [HH.out, ← hX] at this
      exact this
    rw [← hD] at i4
    rw [← hX]
    clear hX hD hid HH HL
    go_enter Tryd.func7, Tryd.ntmps7
    go_wp2_with (go_at_call 10; go_fit (i0 _ (HM.out _ (Below.refl _ _))); rintro e w1 ⟨rfl, hb⟩; obtain ⟨c0, c1, c2⟩ := HK.out _ hb)
    have hS0 := box_three hb.drew
    refine wp_region_held_drew (S := (fun W => (W.cell? ⟨w.heap.size, 0, none⟩ = some (.string f) ∧ W.cell? ⟨w.heap.size, 1, none⟩ = some (.string o) ∧ W.cell? ⟨w.heap.size, 2, none⟩ = some (.int .i64 n)) ∧ Below (w.alloc (.cells #[.string f, .string o, .int .i64 n] 26)).heap.size (w.alloc (.cells #[.string f, .string o, .int .i64 n] 26)) W)) (by kernel_rfl) hS0 (fun hHeld => ?_)
    clear hS0 c0 c1 c2 hb
    refine takeH (i := 0) (k := 6) (v := .pointer (some ⟨w.heap.size, 0, none⟩)) rfl (by rfl) (by kernel_rfl) (by kernel_rfl) (by kernel_rfl) (fun _ _ _ h => h) (by rfl) ?_ hHeld ?_
    · intro w1 hSw; obtain ⟨⟨p0, p1, p2⟩, _⟩ := hSw; go_simp
    (try simp only [Act.put, List.setIfInBounds_toArray, List.set_cons_zero, List.set_cons_succ])
    refine takeH (i := 1) (k := 7) (v := .string f) rfl (by rfl) (by kernel_rfl) (by kernel_rfl) (by kernel_rfl) (fun _ _ _ h => h) (by rfl) ?_ hHeld ?_
    · intro w1 hSw; obtain ⟨⟨p0, p1, p2⟩, _⟩ := hSw; go_simp
    (try simp only [Act.put, List.setIfInBounds_toArray, List.set_cons_zero, List.set_cons_succ])
    refine takeH (i := 2) (k := 8) (v := .pointer (some ⟨w.heap.size, 1, none⟩)) rfl (by rfl) (by kernel_rfl) (by kernel_rfl) (by kernel_rfl) (fun _ _ _ h => h) (by rfl) ?_ hHeld ?_
    · intro w1 hSw; obtain ⟨⟨p0, p1, p2⟩, _⟩ := hSw; go_simp
    (try simp only [Act.put, List.setIfInBounds_toArray, List.set_cons_zero, List.set_cons_succ])
    refine takeH (i := 3) (k := 9) (v := .string o) rfl (by rfl) (by kernel_rfl) (by kernel_rfl) (by kernel_rfl) (fun _ _ _ h => h) (by rfl) ?_ hHeld ?_
    · intro w1 hSw; obtain ⟨⟨p0, p1, p2⟩, _⟩ := hSw; go_simp
    (try simp only [Act.put, List.setIfInBounds_toArray, List.set_cons_zero, List.set_cons_succ])
    refine takeH (i := 4) (k := 10) (v := .pointer (some ⟨w.heap.size, 2, none⟩)) rfl (by rfl) (by kernel_rfl) (by kernel_rfl) (by kernel_rfl) (fun _ _ _ h => h) (by rfl) ?_ hHeld ?_
    · intro w1 hSw; obtain ⟨⟨p0, p1, p2⟩, _⟩ := hSw; go_simp
    (try simp only [Act.put, List.setIfInBounds_toArray, List.set_cons_zero, List.set_cons_succ])
    refine takeH (i := 5) (k := 11) (v := .int .i64 n) rfl (by rfl) (by kernel_rfl) (by kernel_rfl) (by kernel_rfl) (fun _ _ _ h => h) (by rfl) ?_ hHeld ?_
    · intro w1 hSw; obtain ⟨⟨p0, p1, p2⟩, _⟩ := hSw; go_simp
    (try simp only [Act.put, List.setIfInBounds_toArray, List.set_cons_zero, List.set_cons_succ])
    refine wpAnyH_ready (rs := [6]) (by kernel_rfl) (by simp) ?_
    refine AllReadyH.cons rfl (fun K hK => ?_) AllReadyH.nil
    rw [if_pos (by rfl)]
    go_simp
    go_fit (i4 _ (HT.out _ hHeld.2))
    rintro e wm ⟨rfl, hb2⟩
    refine hK.out _ _ (box_three (heldOn hHeld hb2)) (fun hHeld => ?_)
    clear hK K
    (try simp only [Act.put, List.setIfInBounds_toArray, List.set_cons_zero, List.set_cons_succ])
    have hHeld0 := hHeld
    refine wpAnyH_ready (rs := [7]) (by kernel_rfl) (by simp) ?_
    refine AllReadyH.cons rfl (fun K hK => ?_) AllReadyH.nil
    rw [if_pos (by rfl)]
    go_simp
    refine hK.out _ _ (box_three (hHeld.2.alloc hHeld.2.size _)) (fun hHeld => ?_)
    clear hK K
    (try simp only [Act.put, List.setIfInBounds_toArray, List.set_cons_zero, List.set_cons_succ])
    refine wpAnyH_ready (rs := [8]) (by kernel_rfl) (by simp) ?_
    refine AllReadyH.cons rfl (fun K hK => ?_) AllReadyH.nil
    rw [if_pos (by rfl)]
    go_simp
    go_fit (i6 _)
    rintro e wm ⟨rfl, hb2⟩
    refine hK.out _ _ (box_three (heldOn hHeld0 hb2)) (fun hHeld => ?_)
    clear hK K
    (try simp only [Act.put, List.setIfInBounds_toArray, List.set_cons_zero, List.set_cons_succ])
    clear hHeld0
    refine takeH (i := 9) (k := 2) (v := .string X) rfl (by rfl) (by kernel_rfl) (by kernel_rfl) (by kernel_rfl) (fun _ _ _ h => h) (by rfl) ?_ hHeld ?_
    · intro w1 hSw; obtain ⟨⟨p0, p1, p2⟩, _⟩ := hSw; go_simp
    (try simp only [Act.put, List.setIfInBounds_toArray, List.set_cons_zero, List.set_cons_succ])
    refine wpAnyH_done (by kernel_rfl) ?_ _
    obtain ⟨⟨p0, p1, p2⟩, hb⟩ := hHeld
    go_wp2
    go_ret
    exact ⟨rfl, below_one hb⟩
  · rw [if_neg hst]
    have hst' : hdB f o n = false := by simpa using hst
    rw [hst'] at i0
    clear hst hst'
    go_enter Tryd.func7, Tryd.ntmps7
    go_wp2_with (go_at_call 10; go_fit (i0 _ (HM.out _ (Below.refl _ _))); rintro e w1 ⟨rfl, hb⟩)
    go_ret
    exact ⟨rfl, below_one hb⟩
set_option maxRecDepth 100000 in
set_option maxHeartbeats 2000000 in
theorem spec_hdtext (f o : ByteArray) (n : Int) (w : World) (hf : f.size ≤ maxLen) (ho : o.size ≤ maxLen) :
    Calls Tryd.prog 5 #[.agg #[.string f, .string o, .int .i64 n]] w fun e w' => e = .returned (.string (hdT f o n)) ∧ Below w.heap.size w w' := by
  have i0 := fun w => spec_head f o n w hf ho
  have HK := Lib.hid (fun W (h : Below (w.alloc (.cells #[.string f, .string o, .int .i64 n] 26)).heap.size (w.alloc (.cells #[.string f, .string o, .int .i64 n] 26)) W) => (box_three h).1)
  unfold hdT
  by_cases hst : hdB f o n = true
  · obtain ⟨hf3, ho3, hn0, hn1⟩ := hdB_le hst
    rw [if_pos hst]
    rw [hst] at i0
    clear hst hf ho
    have i1 := fun w => spec_dec n w (by omega) hn1
    have hid := id_len (show 0 ≤ n by omega) hn1
    obtain ⟨D, hD⟩ : ∃ D, D = strOf (idL n) := ⟨_, rfl⟩
    have hDs : D.size ≤ 10 := by rw [hD, strOf_size]; exact hid
    have zD : D.data.toList = idL n := by rw [hD, strOf_data]
    rw [← hD] at i1
    obtain ⟨L, hL⟩ : ∃ L, L = strOf (hdL f.data.toList o.data.toList n) := ⟨_, rfl⟩
    rw [← hL]
    have HL := Lib.hid hL
    have ZD := Lib.hid zD
    clear hL hD zD hid
    have m1 : ¬ (9223372036854775807 < 14 + f.size) := by omega
    have m2 : ¬ (9223372036854775807 < 14 + f.size + 6) := by omega
    have m3 : ¬ (9223372036854775807 < 14 + f.size + 6 + o.size) := by omega
    have m4 : ¬ (9223372036854775807 < 14 + f.size + 6 + o.size + 6) := by omega
    have m5 : ¬ (9223372036854775807 < 14 + f.size + 6 + o.size + 6 + D.size) := by omega
    have m6 : ¬ (9223372036854775807 < 14 + f.size + 6 + o.size + 6 + D.size + 2) := by omega
    go_enter Tryd.func5, Tryd.ntmps5
    go_wp2_with (go_at_call 8; go_fit (i0 _); rintro e w1 ⟨rfl, hb⟩; obtain ⟨c0, c1, c2⟩ := HK.out _ hb)
    go_region_held3 (fun W => (W.cell? ⟨w.heap.size, 0, none⟩ = some (.string f) ∧ W.cell? ⟨w.heap.size, 1, none⟩ = some (.string o) ∧ W.cell? ⟨w.heap.size, 2, none⟩ = some (.int .i64 n)) ∧ Below (w.alloc (.cells #[.string f, .string o, .int .i64 n] 26)).heap.size (w.alloc (.cells #[.string f, .string o, .int .i64 n] 26)) W) (with_reducible first | assumption | exact box_three hb.drew | exact box_three (heldOn (by assumption) hbN)) (first | (go_at_call 9; go_fit (i1 _); rintro e w2 ⟨rfl, hbN⟩; have hbF := heldOn (by assumption) hbN))
    all_goals
      go_wp2
      go_ret
      exact ⟨ret_str (WideShapes.bytes_inj (by rw [HL.out, strOf_data]; simp [hdL, Joins.data_append, ZD.out])), below_one hbF⟩
  · rw [if_neg hst]
    have hst' : hdB f o n = false := by simpa using hst
    rw [hst'] at i0
    clear hst hst'
    go_enter Tryd.func5, Tryd.ntmps5
    go_wp2_with (go_at_call 8; go_fit (i0 _); rintro e w1 ⟨rfl, hb⟩)
    go_ret
    exact ⟨rfl, below_one hb⟩
end Go.Proofs.YtgcfognljkebjaaDoor
