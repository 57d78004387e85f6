/- Several parts in one text: SmHeadText, SmMath, SmRead1, SmRead2, SmLine, SmNext. -/
import Derived.Test.YtgcfognljkebjaaGreatDoorSmHead
import Derived.Test.YtgcfognljkebjaaGreatDoorStTextI
import Derived.Test.YtgcfognljkebjaaGreatDoorStTextS
import Derived.Test.YtgcfognljkebjaaGreatDoorSrMath
import Derived.Test.YtgcfognljkebjaaGreatDoorSrSpec3
import Derived.Test.YtgcfognljkebjaaGreatDoorSrReadI
namespace Go.Proofs.YtgcfognljkebjaaGreatDoor
set_option linter.unusedSimpArgs false
set_option linter.unusedVariables false
open Go.RowKit Go.Joins

/-- The line that opens a stream. -/
def hdL (f o : List UInt8) (n : Int) : List UInt8 := [60, 115, 116, 114, 101, 97, 109, 32, 102, 114, 111, 109, 61, 39] ++ (f ++ ([39, 32, 116, 111, 61, 39] ++ (o ++ ([39, 32, 105, 100, 61, 39] ++ (idL n ++ [39, 62])))))
noncomputable def hdT (f o : ByteArray) (n : Int) : ByteArray := if hdB f o n = true then strOf (hdL f.data.toList o.data.toList n) else ⟨#[]⟩
theorem hdB_le {f o : ByteArray} {n : Int} (h : hdB f o n = true) : f.size ≤ 30 ∧ o.size ≤ 30 ∧ 1 ≤ n ∧ n ≤ 1000000000 := by
  unfold hdB at h
  simp only [Bool.and_eq_true, decide_eq_true_eq] at h
  obtain ⟨⟨h1, h2⟩, h3, h4⟩ := h
  have a1 := (domB_iff.1 h1).2.1
  have a2 := (domB_iff.1 h2).2.1
  unfold partB at a1 a2
  simp only [Bool.and_eq_true, decide_eq_true_eq] at a1 a2
  exact ⟨a1.1, a2.1, h3, h4⟩
theorem box_three {w w1 : World} {a b c : Value} {t : Nat} (h : Below (w.alloc (.cells #[a, b, c] t)).heap.size (w.alloc (.cells #[a, b, c] t)) w1) :
    (w1.cell? ⟨w.heap.size, 0, none⟩ = some a ∧ w1.cell? ⟨w.heap.size, 1, none⟩ = some b ∧ w1.cell? ⟨w.heap.size, 2, none⟩ = some c) ∧ Below (w.alloc (.cells #[a, b, c] t)).heap.size (w.alloc (.cells #[a, b, c] t)) w1 := by
  have hA : Arr w1 w.heap.size t [a, b, c] := (h.block w.heap.size (by simp)).trans (Arr.fresh w t [a, b, c])
  exact ⟨⟨hA.cell 0, hA.cell 1, hA.cell 2⟩, h⟩
set_option maxRecDepth 100000 in
set_option maxHeartbeats 2000000 in
theorem impl_hdtext (f o : ByteArray) (n : Int) (w : World) (hf : f.size ≤ maxLen) (ho : o.size ≤ maxLen) (hm : MaxL w) (hp : TabP w) :
    Calls Tryz.prog 18 #[.agg #[.string f, .string o, .int .i64 n]] w fun e w' => e = .returned (.string (hdT f o n)) ∧ Below w.heap.size w w' := by
  have i0 := fun w hm => impl_head f o n w hf ho hm
  have HM := Lib.hid (fun W (h : Below (w.alloc (.cells #[.string f, .string o, .int .i64 n] 27)).heap.size (w.alloc (.cells #[.string f, .string o, .int .i64 n] 27)) W) => hm.below (below_one h) hm.pos)
  have HK := Lib.hid (fun W (h : Below (w.alloc (.cells #[.string f, .string o, .int .i64 n] 27)).heap.size (w.alloc (.cells #[.string f, .string o, .int .i64 n] 27)) W) => (box_three h).1)
  have HT := Lib.hid (fun W (h : Below (w.alloc (.cells #[.string f, .string o, .int .i64 n] 27)).heap.size (w.alloc (.cells #[.string f, .string o, .int .i64 n] 27)) W) => hp.below (below_one h))
  clear hm hp
  unfold hdT
  by_cases hst : hdB f o n = true
  · obtain ⟨hf3, ho3, hn0, hn1⟩ := hdB_le hst
    rw [if_pos hst]
    rw [hst] at i0
    clear hst hf ho
    have hid := id_len (show 0 ≤ n by omega) hn1
    have i4 : ∀ w, TabP w → Calls Tryz.prog 45 #[.int .i64 n, .int .i64 10] w fun e w' => e = .returned (.string (strOf (idL n))) ∧ Below w.heap.size w w' := fun w ht =>
      (Tryz.strconv_FormatInt_10 n (by omega) (by omega) w ht).mono fun e w' ⟨he, kk, os, hw⟩ => ⟨by rw [he]; unfold idL; rw [if_neg (by omega)]; rfl, by rw [hw]; exact Lib.below_grow _ w (Nat.le_refl _) kk os⟩
    obtain ⟨D, hD⟩ : ∃ D, D = strOf (idL n) := ⟨_, rfl⟩
    have HH : Hid (flat [⟨#[60, 115, 116, 114, 101, 97, 109, 32, 102, 114, 111, 109, 61, 39]⟩, f, ⟨#[39, 32, 116, 111, 61, 39]⟩, o, ⟨#[39, 32, 105, 100, 61, 39]⟩, D, ⟨#[39, 62]⟩] = hdL f.data.toList o.data.toList n) := Lib.hid (by rw [hD]; simp [flat, hdL, strOf_data])
    have HL : Hid ((hdL f.data.toList o.data.toList n).length ≤ 20000000) := Lib.hid (by
      have := size_data f
      have := size_data o
      simp [hdL]
      omega)
    obtain ⟨X, hX⟩ : ∃ X, X = strOf (hdL f.data.toList o.data.toList n) := ⟨_, rfl⟩
    have i6 : ∀ w : World, Calls Tryz.prog 26 #[.slice (some ⟨w.heap.size, 0, none⟩) 7 7] (w.alloc (.cells #[.string ⟨#[60, 115, 116, 114, 101, 97, 109, 32, 102, 114, 111, 109, 61, 39]⟩, .string f, .string ⟨#[39, 32, 116, 111, 61, 39]⟩, .string o, .string ⟨#[39, 32, 105, 100, 61, 39]⟩, .string D, .string ⟨#[39, 62]⟩] 9)) fun e w' => e = .returned (.string X) ∧ Below w.heap.size w w' := fun w => by
      have := joined_new w [⟨#[60, 115, 116, 114, 101, 97, 109, 32, 102, 114, 111, 109, 61, 39]⟩, f, ⟨#[39, 32, 116, 111, 61, 39]⟩, o, ⟨#[39, 32, 105, 100, 61, 39]⟩, D, ⟨#[39, 62]⟩] (by simp) (by rw [HH.out]; have := HL.out; omega)
      rw [HH.out, ← hX] at this
      exact this
    rw [← hD] at i4
    rw [← hX]
    clear hX hD hid HH HL
    go_enter Tryz.func18, Tryz.ntmps18
    go_wp2_with (go_at_call 42; go_fit (i0 _ (HM.out _ (Below.refl _ _))); rintro e w1 ⟨rfl, hb⟩; obtain ⟨c0, c1, c2⟩ := HK.out _ hb)
    have hS0 := box_three hb.drew
    refine wp_region_held_drew (S := (fun W => (W.cell? ⟨w.heap.size, 0, none⟩ = some (.string f) ∧ W.cell? ⟨w.heap.size, 1, none⟩ = some (.string o) ∧ W.cell? ⟨w.heap.size, 2, none⟩ = some (.int .i64 n)) ∧ Below (w.alloc (.cells #[.string f, .string o, .int .i64 n] 27)).heap.size (w.alloc (.cells #[.string f, .string o, .int .i64 n] 27)) W)) (by kernel_rfl) hS0 (fun hHeld => ?_)
    clear hS0 c0 c1 c2 hb
    refine takeH (i := 0) (k := 6) (v := .pointer (some ⟨w.heap.size, 0, none⟩)) rfl (by rfl) (by kernel_rfl) (by kernel_rfl) (by kernel_rfl) (fun _ _ _ h => h) (by rfl) ?_ hHeld ?_
    · intro w1 hSw; obtain ⟨⟨p0, p1, p2⟩, _⟩ := hSw; go_simp
    (try simp only [Act.put, List.setIfInBounds_toArray, List.set_cons_zero, List.set_cons_succ])
    refine takeH (i := 1) (k := 7) (v := .string f) rfl (by rfl) (by kernel_rfl) (by kernel_rfl) (by kernel_rfl) (fun _ _ _ h => h) (by rfl) ?_ hHeld ?_
    · intro w1 hSw; obtain ⟨⟨p0, p1, p2⟩, _⟩ := hSw; go_simp
    (try simp only [Act.put, List.setIfInBounds_toArray, List.set_cons_zero, List.set_cons_succ])
    refine takeH (i := 2) (k := 8) (v := .pointer (some ⟨w.heap.size, 1, none⟩)) rfl (by rfl) (by kernel_rfl) (by kernel_rfl) (by kernel_rfl) (fun _ _ _ h => h) (by rfl) ?_ hHeld ?_
    · intro w1 hSw; obtain ⟨⟨p0, p1, p2⟩, _⟩ := hSw; go_simp
    (try simp only [Act.put, List.setIfInBounds_toArray, List.set_cons_zero, List.set_cons_succ])
    refine takeH (i := 3) (k := 9) (v := .string o) rfl (by rfl) (by kernel_rfl) (by kernel_rfl) (by kernel_rfl) (fun _ _ _ h => h) (by rfl) ?_ hHeld ?_
    · intro w1 hSw; obtain ⟨⟨p0, p1, p2⟩, _⟩ := hSw; go_simp
    (try simp only [Act.put, List.setIfInBounds_toArray, List.set_cons_zero, List.set_cons_succ])
    refine takeH (i := 4) (k := 10) (v := .pointer (some ⟨w.heap.size, 2, none⟩)) rfl (by rfl) (by kernel_rfl) (by kernel_rfl) (by kernel_rfl) (fun _ _ _ h => h) (by rfl) ?_ hHeld ?_
    · intro w1 hSw; obtain ⟨⟨p0, p1, p2⟩, _⟩ := hSw; go_simp
    (try simp only [Act.put, List.setIfInBounds_toArray, List.set_cons_zero, List.set_cons_succ])
    refine takeH (i := 5) (k := 11) (v := .int .i64 n) rfl (by rfl) (by kernel_rfl) (by kernel_rfl) (by kernel_rfl) (fun _ _ _ h => h) (by rfl) ?_ hHeld ?_
    · intro w1 hSw; obtain ⟨⟨p0, p1, p2⟩, _⟩ := hSw; go_simp
    (try simp only [Act.put, List.setIfInBounds_toArray, List.set_cons_zero, List.set_cons_succ])
    refine wpAnyH_ready (rs := [6]) (by kernel_rfl) (by simp) ?_
    refine AllReadyH.cons rfl (fun K hK => ?_) AllReadyH.nil
    rw [if_pos (by rfl)]
    go_simp
    go_fit (i4 _ (HT.out _ hHeld.2))
    rintro e wm ⟨rfl, hb2⟩
    refine hK.out _ _ (box_three (heldOn hHeld hb2)) (fun hHeld => ?_)
    clear hK K
    (try simp only [Act.put, List.setIfInBounds_toArray, List.set_cons_zero, List.set_cons_succ])
    have hHeld0 := hHeld
    refine wpAnyH_ready (rs := [7]) (by kernel_rfl) (by simp) ?_
    refine AllReadyH.cons rfl (fun K hK => ?_) AllReadyH.nil
    rw [if_pos (by rfl)]
    go_simp
    refine hK.out _ _ (box_three (hHeld.2.alloc hHeld.2.size _)) (fun hHeld => ?_)
    clear hK K
    (try simp only [Act.put, List.setIfInBounds_toArray, List.set_cons_zero, List.set_cons_succ])
    refine wpAnyH_ready (rs := [8]) (by kernel_rfl) (by simp) ?_
    refine AllReadyH.cons rfl (fun K hK => ?_) AllReadyH.nil
    rw [if_pos (by rfl)]
    go_simp
    go_fit (i6 _)
    rintro e wm ⟨rfl, hb2⟩
    refine hK.out _ _ (box_three (heldOn hHeld0 hb2)) (fun hHeld => ?_)
    clear hK K
    (try simp only [Act.put, List.setIfInBounds_toArray, List.set_cons_zero, List.set_cons_succ])
    clear hHeld0
    refine takeH (i := 9) (k := 2) (v := .string X) rfl (by rfl) (by kernel_rfl) (by kernel_rfl) (by kernel_rfl) (fun _ _ _ h => h) (by rfl) ?_ hHeld ?_
    · intro w1 hSw; obtain ⟨⟨p0, p1, p2⟩, _⟩ := hSw; go_simp
    (try simp only [Act.put, List.setIfInBounds_toArray, List.set_cons_zero, List.set_cons_succ])
    refine wpAnyH_done (by kernel_rfl) ?_ _
    obtain ⟨⟨p0, p1, p2⟩, hb⟩ := hHeld
    go_wp2
    go_ret
    exact ⟨rfl, below_one hb⟩
  · rw [if_neg hst]
    have hst' : hdB f o n = false := by simpa using hst
    rw [hst'] at i0
    clear hst hst'
    go_enter Tryz.func18, Tryz.ntmps18
    go_wp2_with (go_at_call 42; go_fit (i0 _ (HM.out _ (Below.refl _ _))); rintro e w1 ⟨rfl, hb⟩)
    go_ret
    exact ⟨rfl, below_one hb⟩
set_option maxRecDepth 100000 in
set_option maxHeartbeats 2000000 in
theorem spec_hdtext (f o : ByteArray) (n : Int) (w : World) (hf : f.size ≤ maxLen) (ho : o.size ≤ maxLen) :
    Calls Tryz.prog 19 #[.agg #[.string f, .string o, .int .i64 n]] w fun e w' => e = .returned (.string (hdT f o n)) ∧ Below w.heap.size w w' := by
  have i0 := fun w => spec_head f o n w hf ho
  have HK := Lib.hid (fun W (h : Below (w.alloc (.cells #[.string f, .string o, .int .i64 n] 27)).heap.size (w.alloc (.cells #[.string f, .string o, .int .i64 n] 27)) W) => (box_three h).1)
  unfold hdT
  by_cases hst : hdB f o n = true
  · obtain ⟨hf3, ho3, hn0, hn1⟩ := hdB_le hst
    rw [if_pos hst]
    rw [hst] at i0
    clear hst hf ho
    have i1 := fun w => spec_dec n w (by omega) hn1
    have hid := id_len (show 0 ≤ n by omega) hn1
    obtain ⟨D, hD⟩ : ∃ D, D = strOf (idL n) := ⟨_, rfl⟩
    have hDs : D.size ≤ 10 := by rw [hD, strOf_size]; exact hid
    have zD : D.data.toList = idL n := by rw [hD, strOf_data]
    rw [← hD] at i1
    obtain ⟨L, hL⟩ : ∃ L, L = strOf (hdL f.data.toList o.data.toList n) := ⟨_, rfl⟩
    rw [← hL]
    have HL := Lib.hid hL
    have ZD := Lib.hid zD
    clear hL hD zD hid
    have m1 : ¬ (9223372036854775807 < 14 + f.size) := by omega
    have m2 : ¬ (9223372036854775807 < 14 + f.size + 6) := by omega
    have m3 : ¬ (9223372036854775807 < 14 + f.size + 6 + o.size) := by omega
    have m4 : ¬ (9223372036854775807 < 14 + f.size + 6 + o.size + 6) := by omega
    have m5 : ¬ (9223372036854775807 < 14 + f.size + 6 + o.size + 6 + D.size) := by omega
    have m6 : ¬ (9223372036854775807 < 14 + f.size + 6 + o.size + 6 + D.size + 2) := by omega
    go_enter Tryz.func19, Tryz.ntmps19
    go_wp2_with (go_at_call 44; go_fit (i0 _); rintro e w1 ⟨rfl, hb⟩; obtain ⟨c0, c1, c2⟩ := HK.out _ hb)
    go_region_held3 (fun W => (W.cell? ⟨w.heap.size, 0, none⟩ = some (.string f) ∧ W.cell? ⟨w.heap.size, 1, none⟩ = some (.string o) ∧ W.cell? ⟨w.heap.size, 2, none⟩ = some (.int .i64 n)) ∧ Below (w.alloc (.cells #[.string f, .string o, .int .i64 n] 27)).heap.size (w.alloc (.cells #[.string f, .string o, .int .i64 n] 27)) W) (with_reducible first | assumption | exact box_three hb.drew | exact box_three (heldOn (by assumption) hbN)) (first | (go_at_call 46; go_fit (i1 _); rintro e w2 ⟨rfl, hbN⟩; have hbF := heldOn (by assumption) hbN))
    all_goals
      go_wp2
      go_ret
      exact ⟨ret_str (WideShapes.bytes_inj (by rw [HL.out, strOf_data]; simp [hdL, Joins.data_append, ZD.out])), below_one hbF⟩
  · rw [if_neg hst]
    have hst' : hdB f o n = false := by simpa using hst
    rw [hst'] at i0
    clear hst hst'
    go_enter Tryz.func19, Tryz.ntmps19
    go_wp2_with (go_at_call 44; go_fit (i0 _); rintro e w1 ⟨rfl, hb⟩)
    go_ret
    exact ⟨rfl, below_one hb⟩
end Go.Proofs.YtgcfognljkebjaaGreatDoor

namespace Go.Proofs.YtgcfognljkebjaaGreatDoor
set_option linter.unusedSimpArgs false
set_option linter.unusedVariables false
open Go.Joins

/-- This text is the one of this valid head. -/
def okH (f o : List UInt8) (n : Int) (T : List UInt8) : Prop := hdB (strOf f) (strOf o) n = true ∧ hdL f o n = T
def wStream : List UInt8 := [60, 115, 116, 114, 101, 97, 109]
theorem dom_quiet {s : List UInt8} (h : domB (strOf s) = true) : Quiet s ∧ s ≠ [] := by
  have h1 := domB_iff.1 h
  have h2 := h1.2.1
  unfold partB allC at h2
  rw [Bool.and_eq_true, strOf_data] at h2
  refine ⟨quiet_of (fun _ => quiet_dom) h2.2, fun e => ?_⟩
  have h3 := h1.1
  rw [strOf_size, e] at h3
  simp at h3
theorem okH_parts {f o : List UInt8} {n : Int} {T : List UInt8} (h : okH f o n T) : (Quiet f ∧ f ≠ []) ∧ (Quiet o ∧ o ≠ []) ∧ 1 ≤ n ∧ n ≤ 1000000000 := by
  have h1 := h.1
  unfold hdB at h1
  simp only [Bool.and_eq_true, decide_eq_true_eq] at h1
  exact ⟨dom_quiet h1.1.1, dom_quiet h1.1.2, h1.2.1, h1.2.2⟩
/-- spec.l05ReadHead gives it back. -/
theorem okH_S {f o : List UInt8} {n : Int} {T : List UInt8} (h : okH f o n T) : wStream.isPrefixOf T = true ∧ (partsS (T.drop 7).length zeroL (T.drop 7)).1 = ⟨[], [], f, o, n, []⟩ := by
  obtain ⟨⟨qf, nf⟩, ⟨qo, no⟩, h0, h1⟩ := okH_parts h
  have e : T = wStream ++ (fldL wFrom f ++ (fldL wTo o ++ (fldL wId (idL n) ++ [62]))) := by
    rw [← h.2, fld_some nf, fld_some no, fld_some (id_some (by omega) h1 (by omega))]
    simp [hdL, wStream, wFrom, wTo, wId]
  refine ⟨by rw [e]; exact List.isPrefixOf_iff_prefix.2 (List.prefix_append _ _), ?_⟩
  have d : T.drop 7 = fldL wFrom f ++ (fldL wTo o ++ (fldL wId (idL n) ++ [62])) := by rw [e]; rfl
  rw [d]
  obtain ⟨f1, l1, e1⟩ := parts_fld ((fldL wFrom f ++ (fldL wTo o ++ (fldL wId (idL n) ++ [62]))).length + 3) zeroL (w := wFrom) (v := f) (R := fldL wTo o ++ (fldL wId (idL n) ++ [62])) (by decide) qf
  obtain ⟨g1, rfl⟩ : ∃ g, f1 = g + 1 := ⟨f1 - 1, by omega⟩
  obtain ⟨f2, l2, e2⟩ := parts_fld g1 (withE zeroL wFrom f) (w := wTo) (v := o) (R := fldL wId (idL n) ++ [62]) (by decide) qo
  obtain ⟨g2, rfl⟩ : ∃ g, f2 = g + 1 := ⟨f2 - 1, by omega⟩
  obtain ⟨f3, l3, e3⟩ := parts_fld g2 (withE (withE zeroL wFrom f) wTo o) (w := wId) (v := idL n) (R := [62]) (by decide) (quiet_id (by omega))
  have hfu := parts_fuel (fldL wFrom f ++ (fldL wTo o ++ (fldL wId (idL n) ++ [62]))).length ((fldL wFrom f ++ (fldL wTo o ++ (fldL wId (idL n) ++ [62]))).length + 3 + 1) zeroL _ (Nat.le_refl _) (by omega)
  rw [hfu, e1, e2, e3, parts_end _ _ (by decide)]
  have a1 : withE zeroL wFrom f = ⟨[], [], f, [], 0, []⟩ := by unfold withE; rw [if_neg nf]; rfl
  have a2 : withE ⟨[], [], f, [], 0, []⟩ wTo o = ⟨[], [], f, o, 0, []⟩ := by unfold withE; rw [if_neg no]; rfl
  have a3 : withE ⟨[], [], f, o, 0, []⟩ wId (idL n) = ⟨[], [], f, o, n, []⟩ := by
    unfold withE
    rw [if_neg (id_some (by omega) h1 (by omega))]
    show (⟨[], [], f, o, numL (idL n), []⟩ : StL) = _
    rw [num_id (by omega) h1]
  rw [a1, a2, a3]
/-- impl.headParts gives it back. -/
theorem okH_I {f o : List UInt8} {n : Int} {T : List UInt8} (h : okH f o n T) : ∃ a b c d, Lib.split T [39] = [a, f, b, o, c, idL n, d] ∧ numI (idL n) = n := by
  obtain ⟨⟨qf, nf⟩, ⟨qo, no⟩, h0, h1⟩ := okH_parts h
  have hq : ∀ {l : List UInt8}, Quiet l → ∀ x ∈ l, x ≠ 39 := fun h x hx => (h x hx).2.1
  have e : T = [60, 115, 116, 114, 101, 97, 109, 32, 102, 114, 111, 109, 61] ++ 39 :: (f ++ 39 :: ([32, 116, 111, 61] ++ 39 :: (o ++ 39 :: ([32, 105, 100, 61] ++ 39 :: (idL n ++ 39 :: [62]))))) := by
    rw [← h.2]
    simp [hdL]
  refine ⟨[60, 115, 116, 114, 101, 97, 109, 32, 102, 114, 111, 109, 61], [32, 116, 111, 61], [32, 105, 100, 61], [62], ?_, numI_id (by omega) h1 (by omega)⟩
  rw [e, split_more (by decide), split_more (hq qf), split_more (by decide), split_more (hq qo), split_more (by decide), split_more (hq (quiet_id (by omega))), split_one (by decide)]
/-- A head's text is no stanza's. -/
theorem hdT_no {f o : List UInt8} {n : Int} {T : List UInt8} (h : okH f o n T) : ∀ k ∈ kindsL, (60 :: k).isPrefixOf T = false := by
  intro k hk
  have e : ∃ R, T = wStream ++ R := by
    have := (okH_S h).1
    obtain ⟨R, hR⟩ := List.isPrefixOf_iff_prefix.1 this
    exact ⟨R, hR.symm⟩
  obtain ⟨R, rfl⟩ := e
  unfold kindsL at hk
  simp only [List.mem_cons, List.not_mem_nil, or_false] at hk
  rcases hk with rfl | rfl | rfl | rfl
  all_goals simp [wStream, kPres, kMess, kIq, kDb, List.isPrefixOf]
end Go.Proofs.YtgcfognljkebjaaGreatDoor

namespace Go.Proofs.YtgcfognljkebjaaGreatDoor
set_option linter.unusedSimpArgs false
set_option linter.unusedVariables false
open Go.RowKit Go.Joins

/-- A head's cells, out of lists. -/
def hdC (f o : List UInt8) (n : Int) : List Value := [.string (strOf f), .string (strOf o), .int .i64 n]
def hdLV (f o : List UInt8) (n : Int) : Value := .agg #[.string (strOf f), .string (strOf o), .int .i64 n]
/-- Whoever takes a head's text apart gives the head back; of any other text it is said not to be one. -/
def HeadAns (T : List UInt8) (f o : List UInt8) (n : Int) (b : Bool) : Prop := (b = true → okH f o n T) ∧ ((∃ f' o' n', okH f' o' n' T) → b = true)
theorem okH_same {f o f' o' : List UInt8} {n n' : Int} {T : List UInt8} (h : okH f o n T) (h' : okH f' o' n' T) : f = f' ∧ o = o' ∧ n = n' := by
  have e := (okH_S h).2.symm.trans (okH_S h').2
  injection e with _ _ e1 e2 e3
  exact ⟨e1, e2, e3⟩
theorem hdT_okH {f o : List UInt8} {n : Int} {T : List UInt8} (hT : T ≠ []) (h : hdT (strOf f) (strOf o) n = strOf T) : okH f o n T := by
  unfold hdT at h
  split at h
  · rename_i hb
    refine ⟨hb, ?_⟩
    have := congrArg (fun s : ByteArray => s.data.toList) h
    simp only [strOf_data] at this
    exact this
  · have := congrArg (fun s : ByteArray => s.data.toList) h
    simp only [strOf_data] at this
    exact absurd this.symm hT
theorem okH_hdT {f o : List UInt8} {n : Int} {T : List UInt8} (h : okH f o n T) : hdT (strOf f) (strOf o) n = strOf T := by
  unfold hdT
  rw [if_pos h.1, strOf_data, strOf_data, h.2]
theorem below_set3 {B g : Nat} {w w1 : World} (h : Below B w w1) (hg : B ≤ g) (a b c : Value) : Below B w (((w1.setCell ⟨g, 0, none⟩ a).setCell ⟨g, 1, none⟩ b).setCell ⟨g, 2, none⟩ c) :=
  ((h.setCell (p := ⟨g, 0, none⟩) hg a).setCell (p := ⟨g, 1, none⟩) hg b).setCell (p := ⟨g, 2, none⟩) hg c
theorem arr_far3 {w : World} {b t g : Nat} {cs : List Value} (h : Arr w b t cs) (hne : b ≠ g) (x y z : Value) : Arr (((w.setCell ⟨g, 0, none⟩ x).setCell ⟨g, 1, none⟩ y).setCell ⟨g, 2, none⟩ z) b t cs :=
  arr_other (arr_other (arr_other h _ _ _ hne) _ _ _ hne) _ _ _ hne
theorem arr_put3 {w : World} {g t : Nat} {a b c : Value} (h : Arr w g t [a, b, c]) (x y z : Value) : Arr (((w.setCell ⟨g, 0, none⟩ x).setCell ⟨g, 1, none⟩ y).setCell ⟨g, 2, none⟩ z) g t [x, y, z] := ((h.put 0 x).put 1 y).put 2 z
set_option maxRecDepth 100000 in
set_option maxHeartbeats 1000000 in
theorem spec_readhead (s : ByteArray) (w : World) (hs : s.size ≤ 100000) :
    Calls Tryz.prog 47 #[.string s] w fun e w' => (∃ f o n b, e = .returned (.tuple #[hdLV f o n, .bool b]) ∧ (s.data.toList ≠ [] → HeadAns s.data.toList f o n b) ∧ f.length ≤ s.size ∧ o.length ≤ s.size) ∧ Below w.heap.size w w' := by
  have hlen := size_data s
  have i1 : ∀ w, Calls Tryz.prog 62 #[.string s, .int .i64 0, .string ⟨#[60, 115, 116, 114, 101, 97, 109]⟩] w (SaysB (hasB s.data.toList 0 wStream) w) := fun w => spec_has s 0 ⟨#[60, 115, 116, 114, 101, 97, 109]⟩ w (by omega) (Nat.zero_le _) (by decide)
  unfold hasB at i1
  rw [List.drop_zero] at i1
  cases hp : wStream.isPrefixOf s.data.toList
  · rw [hp] at i1
    have HNo : Hid (∀ f o n, ¬ okH f o n s.data.toList) := Lib.hid (fun f o n h => by have := (okH_S h).1; rw [hp] at this; cases this)
    clear hp hlen
    go_enter Tryz.func47, Tryz.ntmps47
    go_wp2_with (go_at_call 62; go_fit (i1 _); rintro e w1 ⟨rfl, rfl⟩)
    exact bodyPost_ret (v := .tuple #[hdLV [] [] 0, .bool false]) (by simp [results, Tryz.results47, go_sem, hdLV, strOf]) rfl ⟨⟨[], [], 0, false, rfl, fun _ => ⟨fun h => (by cases h), fun h => by obtain ⟨f, o, n, h⟩ := h; exact absurd h (HNo.out f o n)⟩, Nat.zero_le _, Nat.zero_le _⟩, (Below.refl _ _).alloc (Nat.le_refl _) _⟩
  · rw [hp] at i1
    have hle7 : 7 ≤ s.size := by
      have h1 := (List.isPrefixOf_iff_prefix.1 hp).length_le
      rw [hlen] at h1
      simpa [wStream] using h1
    obtain ⟨D, hD⟩ : ∃ D, D = s.data.toList.drop 7 := ⟨_, rfl⟩
    have hDl : D.length ≤ s.size := by rw [hD]; simp
    have x1 : s.extract 7 s.size = strOf D := WideShapes.bytes_inj (by rw [ext_toList s 7 s.size hle7 (Nat.le_refl _), ← hlen, List.take_length, strOf_data, hD])
    have i2 := fun w => spec_parts4 (strOf D) w (by rw [strOf_size]; omega)
    rw [strOf_data] at i2
    have hpl := (parts_le D.length zeroL D s.size (zero_le _) hDl).1
    have HOK : Hid (∀ f o n, okH f o n s.data.toList → (partsS D.length zeroL D).1 = ⟨[], [], f, o, n, []⟩) := Lib.hid (fun f o n h => by rw [hD]; exact (okH_S h).2)
    obtain ⟨⟨p, R⟩, hP⟩ : ∃ P, partsS D.length zeroL D = P := ⟨_, rfl⟩
    rw [hP] at i2 hpl HOK
    dsimp only at i2 hpl HOK
    unfold stLV at i2
    obtain ⟨l1, l2, l3, l4, l5⟩ := hpl
    have i3 := fun w => spec_hdtext (strOf p.f) (strOf p.o) p.n w (by rw [strOf_size]; unfold maxLen; omega) (by rw [strOf_size]; unfold maxLen; omega)
    obtain ⟨Z, hZ⟩ : ∃ Z, hdT (strOf p.f) (strOf p.o) p.n = Z := ⟨_, rfl⟩
    have HA : Hid (s.data.toList ≠ [] → HeadAns s.data.toList p.f p.o p.n (Z.toList == s.toList)) := Lib.hid (fun hne => ⟨fun h => by
      refine hdT_okH hne ?_
      rw [hZ, strOf_toList]
      rw [beq_iff_eq, ByteArray.toList_eq, ByteArray.toList_eq] at h
      exact WideShapes.bytes_inj h, fun ⟨f, o, n, h⟩ => by
      have e := HOK.out f o n h
      rw [e] at hZ
      dsimp only at hZ
      rw [okH_hdT h, strOf_toList] at hZ
      rw [hZ]
      simp⟩)
    rw [hZ] at i3
    clear hZ hP hD hp HOK hlen l1 l2 l5 hDl
    go_enter Tryz.func47, Tryz.ntmps47
    go_wp2_with (first
      | (go_at_call 62; go_fit (i1 _); rintro e w1 ⟨rfl, rfl⟩)
      | (go_at_call 63; go_fit (i2 _); rintro e w2 ⟨rfl, hb⟩))
    have hR0 : Arr w2 w.heap.size 27 [.string ⟨#[]⟩, .string ⟨#[]⟩, .int .i64 0] := (hb.block _ (by simp)).trans (Arr.fresh w 27 [.string ⟨#[]⟩, .string ⟨#[]⟩, .int .i64 0])
    have hsz2 := arr_lt hR0
    have hB0 := below_one hb
    have hN : Arr ((w2.alloc (.cells #[.string (strOf p.k), .string (strOf p.t), .string (strOf p.f), .string (strOf p.o), .int .i64 p.n, .string (strOf p.b)] 70)).alloc (.cells #[.string (strOf p.f), .string (strOf p.o), .int .i64 p.n] 27)).drew (w2.heap.size + 1) 27 (hdC p.f p.o p.n) := by
      have := Arr.fresh (w2.alloc (.cells #[.string (strOf p.k), .string (strOf p.t), .string (strOf p.f), .string (strOf p.o), .int .i64 p.n, .string (strOf p.b)] 70)) 27 (hdC p.f p.o p.n)
      rw [World.size_alloc] at this
      exact this
    have hS0 : (fun W => Arr W (w2.heap.size + 1) 27 (hdC p.f p.o p.n) ∧ (∃ a b c, Arr W w.heap.size 27 [a, b, c]) ∧ Below w.heap.size w W) ((w2.alloc (.cells #[.string (strOf p.k), .string (strOf p.t), .string (strOf p.f), .string (strOf p.o), .int .i64 p.n, .string (strOf p.b)] 70)).alloc (.cells #[.string (strOf p.f), .string (strOf p.o), .int .i64 p.n] 27)).drew := ⟨hN, ⟨_, _, _, arr_alloc (arr_alloc hR0 _) _⟩, ((hB0.alloc hB0.size _).alloc (by have := hB0.size; simp; omega) _).drew⟩
    refine wp_region_held_drew (S := (fun W => Arr W (w2.heap.size + 1) 27 (hdC p.f p.o p.n) ∧ (∃ a b c, Arr W w.heap.size 27 [a, b, c]) ∧ Below w.heap.size w W)) (by kernel_rfl) hS0 (fun hHeld => ?_)
    clear hS0 hN hR0 hB0 hb
    generalize ((w2.alloc (.cells #[.string (strOf p.k), .string (strOf p.t), .string (strOf p.f), .string (strOf p.o), .int .i64 p.n, .string (strOf p.b)] 70)).alloc (.cells #[.string (strOf p.f), .string (strOf p.o), .int .i64 p.n] 27)).drew = wm at hHeld ⊢
    refine takeH (i := 0) (k := 24) (v := .agg #[.string (strOf p.f), .string (strOf p.o), .int .i64 p.n]) rfl (by rfl) (by kernel_rfl) (by kernel_rfl) (by kernel_rfl) (fun _ _ _ h => h) (by rfl) ?_ hHeld ?_
    · intro w1 hSw; obtain ⟨c0, c1, c2, _⟩ := arr_three hSw.1; go_simp
    (try simp only [Act.put, List.setIfInBounds_toArray, List.set_cons_zero, List.set_cons_succ])
    refine takeH (i := 1) (k := 25) (v := .agg #[.string (strOf p.f), .string (strOf p.o), .int .i64 p.n]) rfl (by rfl) (by kernel_rfl) (by kernel_rfl) (by kernel_rfl) (fun _ _ _ h => h) (by rfl) ?_ hHeld ?_
    · intro w1 hSw; obtain ⟨c0, c1, c2, _⟩ := arr_three hSw.1; go_simp
    (try simp only [Act.put, List.setIfInBounds_toArray, List.set_cons_zero, List.set_cons_succ])
    refine takeH (i := 3) (k := 27) (v := .string s) rfl (by rfl) (by kernel_rfl) (by kernel_rfl) (by kernel_rfl) (fun _ _ _ h => h) (by rfl) ?_ hHeld ?_
    · intro w1 hSw; obtain ⟨c0, c1, c2, _⟩ := arr_three hSw.1; go_simp
    (try simp only [Act.put, List.setIfInBounds_toArray, List.set_cons_zero, List.set_cons_succ])
    refine wpAnyH_ready (rs := [2]) (by kernel_rfl) (by simp) ?_
    refine AllReadyH.cons rfl (fun K hK => ?_) AllReadyH.nil
    rw [if_pos (by rfl)]
    go_simp
    go_fit (i3 _)
    rintro e wm ⟨rfl, hb2⟩
    refine hK.out _ _ (⟨arr_below hHeld.1 hb2, (by obtain ⟨a, b, c, h⟩ := hHeld.2.1; exact ⟨a, b, c, arr_below h hb2⟩), hHeld.2.2.trans (hb2.mono hHeld.2.2.size)⟩) (fun hHeld => ?_)
    clear hK K
    (try simp only [Act.put, List.setIfInBounds_toArray, List.set_cons_zero, List.set_cons_succ])
    refine takeH (i := 4) (k := 28) (v := .bool (Z.toList == s.toList)) rfl (by rfl) (by kernel_rfl) (by kernel_rfl) (by kernel_rfl) (fun _ _ _ h => h) (by rfl) ?_ hHeld ?_
    · intro w1 hSw; obtain ⟨c0, c1, c2, _⟩ := arr_three hSw.1; go_simp
    (try simp only [Act.put, List.setIfInBounds_toArray, List.set_cons_zero, List.set_cons_succ])
    obtain ⟨x0, x1, x2, hX⟩ := hHeld.2.1
    obtain ⟨b0, b1, b2, g0, g1, g2⟩ := arr_three hX
    have hzX := arr_lt hX
    have hBX := hHeld.2.2
    have hHX := hHeld.1
    refine wpAnyH_ready (rs := [5]) (by kernel_rfl) (by simp) ?_
    refine AllReadyH.cons rfl (fun K hK => ?_) AllReadyH.nil
    rw [if_pos (by rfl)]
    go_simp
    refine hK.out _ _ (⟨arr_far3 hHX (by have := hsz2; omega) _ _ _, ⟨_, _, _, arr_put3 hX _ _ _⟩, below_set3 hBX (Nat.le_refl _) _ _ _⟩) (fun hHeld => ?_)
    clear hK K
    (try simp only [Act.put, List.setIfInBounds_toArray, List.set_cons_zero, List.set_cons_succ])
    refine takeH (i := 6) (k := 3) (v := .bool (Z.toList == s.toList)) rfl (by rfl) (by kernel_rfl) (by kernel_rfl) (by kernel_rfl) (fun _ _ _ h => h) (by rfl) ?_ hHeld ?_
    · intro w1 hSw; obtain ⟨c0, c1, c2, _⟩ := arr_three hSw.1; go_simp
    (try simp only [Act.put, List.setIfInBounds_toArray, List.set_cons_zero, List.set_cons_succ])
    refine wpAnyH_done (by kernel_rfl) ?_ _
    go_wp2
    exact bodyPost_ret (v := .tuple #[hdLV p.f p.o p.n, .bool (Z.toList == s.toList)]) (by simp [results, Tryz.results47, go_sem, b0, b1, b2, hzX, hdLV]; try omega) rfl ⟨⟨p.f, p.o, p.n, _, rfl, HA.out, l3, l4⟩, below_set3 hBX (Nat.le_refl _) _ _ _⟩
end Go.Proofs.YtgcfognljkebjaaGreatDoor

namespace Go.Proofs.YtgcfognljkebjaaGreatDoor
set_option linter.unusedSimpArgs false
set_option linter.unusedVariables false
open Go.RowKit Go.Joins

def zero3 : List Value := [.string ⟨#[]⟩, .string ⟨#[]⟩, .int .i64 0]
/-- The answer's box, the pieces. -/
def HBox (w W : World) (row : List Value) : Prop := Arr W w.heap.size 27 zero3 ∧ Arr W (w.heap.size + 1) 9 row ∧ Below w.heap.size w W
theorem HBox.on {w W W2 : World} {row : List Value} (h : HBox w W row) (hb : Below W.heap.size W W2) : HBox w W2 row := ⟨arr_below h.1 hb, arr_below h.2.1 hb, h.2.2.trans (hb.mono h.2.2.size)⟩
theorem HBox.new {w W : World} {row : List Value} (h : HBox w W row) (o : Obj) : HBox w (W.alloc o) row := h.on ((Below.refl _ _).alloc (Nat.le_refl _) o)
theorem split_len {s : ByteArray} : ((Lib.splitB ⟨#[39]⟩ 0 (Lib.countB s ⟨#[39]⟩) s)).length = Lib.countB s ⟨#[39]⟩ + 1 := Lib.splitB_all ⟨#[39]⟩ (by decide) 0 _ s rfl
theorem split_data (s : ByteArray) : (Lib.splitB ⟨#[39]⟩ 0 (Lib.countB s ⟨#[39]⟩) s).map (·.data.toList) = Lib.split s.data.toList [39] := by
  rw [Lib.splitB_data]
  rfl
set_option maxRecDepth 100000 in
set_option maxHeartbeats 1000000 in
theorem impl_headparts (s : ByteArray) (w : World) (hs : s.size ≤ 100000) (hm : MaxL w) (hE : ErrV w) :
    Calls Tryz.prog 88 #[.string s] w fun e w' => (∃ f o n, e = .returned (hdLV f o n) ∧ (∀ f' o' n', okH f' o' n' s.data.toList → f = f' ∧ o = o' ∧ n = n') ∧ f.length ≤ s.size ∧ o.length ≤ s.size) ∧ Below w.heap.size w w' := by
  have hlen := size_data s
  obtain ⟨m, hm0⟩ := hm
  have hm1 : ∀ o, (w.alloc o).cell? ⟨0, 0, none⟩ = some (.int .i64 m) := fun o => (World.cell?_alloc_lt w o ⟨0, 0, none⟩ (lt_of_cellJ hm0)).trans hm0
  have i1 := fun o => Tryz.strings_Split s ⟨#[39]⟩ m (w.alloc o) (by omega) (hm1 o) (by decide)
  have hwd := split_data s
  have hwl := split_len (s := s)
  have hwb : ∀ f ∈ Lib.splitB ⟨#[39]⟩ 0 (Lib.countB s ⟨#[39]⟩) s, f.size ≤ s.size := by
    intro f hf
    have := splitK_le [39] (Lib.count s.data.toList [39]) s.data.toList f.data.toList (by
      show f.data.toList ∈ Lib.split s.data.toList [39]
      rw [← hwd]
      exact List.mem_map_of_mem hf)
    rw [size_data, size_data] at this
    exact this
  have HER := Lib.hid (fun (W : World) (h : Below w.heap.size w W) => hE.below h)
  obtain ⟨ws, hws⟩ : ∃ ws, Lib.splitB ⟨#[39]⟩ 0 (Lib.countB s ⟨#[39]⟩) s = ws := ⟨_, rfl⟩
  obtain ⟨q, hq⟩ : ∃ q, Lib.countB s ⟨#[39]⟩ = q := ⟨_, rfl⟩
  rw [hws] at i1 hwd hwl hwb
  rw [hq] at i1 hwl
  clear hws hq hm1 hm0 hE
  have HB := Lib.hid hwb
  have HD := Lib.hid hwd
  clear hwb hwd hlen
  by_cases h7 : q = 6
  · subst h7
    match ws, hwl with
    | [p0, p1, p2, p3, p4, p5, p6], _ =>
      have hp1 := HB.out p1 (by simp)
      have hp3 := HB.out p3 (by simp)
      have hp5 := HB.out p5 (by simp)
      have HA : Hid (∀ f' o' n', okH f' o' n' s.data.toList → p1.data.toList = f' ∧ p3.data.toList = o' ∧ numI p5.data.toList = n') := Lib.hid (fun f' o' n' h => by
        obtain ⟨a, b, c, d, h1, h2⟩ := okH_I h
        have e := HD.out.trans h1
        simp only [List.map_cons, List.map_nil, List.cons.injEq] at e
        obtain ⟨_, e1, _, e3, _, e5, _⟩ := e
        exact ⟨e1, e3, by rw [e5]; exact h2⟩)
      have i2 := fun W hE => impl_num p5 W (by omega) hE
      clear HB HD
      go_enter Tryz.func88, Tryz.ntmps88
      go_wp2_with (first
        | (go_at_call 25; go_fit (i1 _); rintro e w1 ⟨rfl, rfl⟩)
        | (go_at_call 111; go_fit (i2 _ (HER.out _ (((Below.refl _ _).alloc (Nat.le_refl _) _).alloc (by simp) _))); rintro e w2 ⟨⟨r, rfl⟩, hb⟩))
      have h0 : HBox w w2.drew [.string p0, .string p1, .string p2, .string p3, .string p4, .string p5, .string p6] := by
        have h1 := below_one hb
        have hC : Arr w2 (w.alloc (.cells zero3.toArray 27)).heap.size 9 [.string p0, .string p1, .string p2, .string p3, .string p4, .string p5, .string p6] := (hb.block _ (by simp)).trans (Arr.fresh (w.alloc (.cells zero3.toArray 27)) 9 [.string p0, .string p1, .string p2, .string p3, .string p4, .string p5, .string p6])
        rw [World.size_alloc] at hC
        have hA0 : Arr w2 w.heap.size 27 zero3 := (h1.block _ (by simp)).trans (Arr.fresh w 27 zero3)
        exact HBox.on ⟨hA0, hC, below_one h1⟩ (Below.refl _ _).drew
      have hq1 : p1.size ≤ 2000000 := by omega
      have hq3 : p3.size ≤ 2000000 := by omega
      refine wp_region_held_drew (S := (fun W => Arr W (w.heap.size + 1) 9 [.string p0, .string p1, .string p2, .string p3, .string p4, .string p5, .string p6])) (by kernel_rfl) h0.2.1 (fun hHeld => ?_)
      clear hb
      generalize w2.drew = wm at h0 hHeld ⊢
      refine takeH (i := 0) (k := 19) (v := .slice (some ⟨w.heap.size + 1, 0, none⟩) 7 7) rfl (by rfl) (by kernel_rfl) (by kernel_rfl) (by kernel_rfl) (fun _ _ _ h => h) (by rfl) ?_ hHeld ?_
      · intro w1 hSw; obtain ⟨q0, q1, q2, q3, q4, q5, q6, _⟩ := arr_seven hSw; go_simp
      (try simp only [Act.put, List.setIfInBounds_toArray, List.set_cons_zero, List.set_cons_succ])
      refine takeH (i := 1) (k := 20) (v := .pointer (some ⟨w.heap.size + 1, 1, none⟩)) rfl (by rfl) (by kernel_rfl) (by kernel_rfl) (by kernel_rfl) (fun _ _ _ h => h) (by rfl) ?_ hHeld ?_
      · intro w1 hSw; obtain ⟨q0, q1, q2, q3, q4, q5, q6, _⟩ := arr_seven hSw; go_simp
      (try simp only [Act.put, List.setIfInBounds_toArray, List.set_cons_zero, List.set_cons_succ])
      refine takeH (i := 2) (k := 21) (v := .string p1) rfl (by rfl) (by kernel_rfl) (by kernel_rfl) (by kernel_rfl) (fun _ _ _ h => h) (by rfl) ?_ hHeld ?_
      · intro w1 hSw; obtain ⟨q0, q1, q2, q3, q4, q5, q6, _⟩ := arr_seven hSw; go_simp
      (try simp only [Act.put, List.setIfInBounds_toArray, List.set_cons_zero, List.set_cons_succ])
      refine takeH (i := 5) (k := 24) (v := .slice (some ⟨w.heap.size + 1, 0, none⟩) 7 7) rfl (by rfl) (by kernel_rfl) (by kernel_rfl) (by kernel_rfl) (fun _ _ _ h => h) (by rfl) ?_ hHeld ?_
      · intro w1 hSw; obtain ⟨q0, q1, q2, q3, q4, q5, q6, _⟩ := arr_seven hSw; go_simp
      (try simp only [Act.put, List.setIfInBounds_toArray, List.set_cons_zero, List.set_cons_succ])
      refine takeH (i := 6) (k := 25) (v := .pointer (some ⟨w.heap.size + 1, 3, none⟩)) rfl (by rfl) (by kernel_rfl) (by kernel_rfl) (by kernel_rfl) (fun _ _ _ h => h) (by rfl) ?_ hHeld ?_
      · intro w1 hSw; obtain ⟨q0, q1, q2, q3, q4, q5, q6, _⟩ := arr_seven hSw; go_simp
      (try simp only [Act.put, List.setIfInBounds_toArray, List.set_cons_zero, List.set_cons_succ])
      refine takeH (i := 7) (k := 26) (v := .string p3) rfl (by rfl) (by kernel_rfl) (by kernel_rfl) (by kernel_rfl) (fun _ _ _ h => h) (by rfl) ?_ hHeld ?_
      · intro w1 hSw; obtain ⟨q0, q1, q2, q3, q4, q5, q6, _⟩ := arr_seven hSw; go_simp
      (try simp only [Act.put, List.setIfInBounds_toArray, List.set_cons_zero, List.set_cons_succ])
      refine takeH (i := 10) (k := 29) (v := .int .i64 (numI p5.data.toList)) rfl (by rfl) (by kernel_rfl) (by kernel_rfl) (by kernel_rfl) (fun _ _ _ h => h) (by rfl) ?_ hHeld ?_
      · intro w1 hSw; obtain ⟨q0, q1, q2, q3, q4, q5, q6, _⟩ := arr_seven hSw; go_simp
      (try simp only [Act.put, List.setIfInBounds_toArray, List.set_cons_zero, List.set_cons_succ])
      refine wpAnyH_ready (rs := [3, 8]) (by kernel_rfl) (by simp) ?_
      refine AllReadyH.cons rfl (fun K hK => ?_) (AllReadyH.cons rfl (fun K hK => ?_) AllReadyH.nil)
      · rw [if_pos (by rfl)]
        go_simp
        have h1 := h0.new (.cells #[.string p1] 9)
        refine hK.out _ _ h1.2.1 (fun hHeld => ?_)
        clear hK K
        (try simp only [Act.put, List.setIfInBounds_toArray, List.set_cons_zero, List.set_cons_succ])
        refine wpAnyH_ready (rs := [4, 8]) (by kernel_rfl) (by simp) ?_
        refine AllReadyH.cons rfl (fun K hK => ?_) (AllReadyH.cons rfl (fun K hK => ?_) AllReadyH.nil)
        · rw [if_pos (by rfl)]
          go_simp
          go_fit (joined_at _ p1 _ hq1 (one_at wm p1 _))
          rintro e wa ⟨rfl, hba⟩
          have h2 := h1.on hba
          refine hK.out _ _ h2.2.1 (fun hHeld => ?_)
          clear hK K
          (try simp only [Act.put, List.setIfInBounds_toArray, List.set_cons_zero, List.set_cons_succ])
          refine wpAnyH_ready (rs := [8]) (by kernel_rfl) (by simp) ?_
          refine AllReadyH.cons rfl (fun K hK => ?_) AllReadyH.nil
          rw [if_pos (by rfl)]
          go_simp
          have h3 := h2.new (.cells #[.string p3] 9)
          refine hK.out _ _ h3.2.1 (fun hHeld => ?_)
          clear hK K
          (try simp only [Act.put, List.setIfInBounds_toArray, List.set_cons_zero, List.set_cons_succ])
          refine wpAnyH_ready (rs := [9]) (by kernel_rfl) (by simp) ?_
          refine AllReadyH.cons rfl (fun K hK => ?_) AllReadyH.nil
          rw [if_pos (by rfl)]
          go_simp
          go_fit (joined_at _ p3 _ hq3 (one_at wa p3 _))
          rintro e wb ⟨rfl, hbb⟩
          have h4 := h3.on hbb
          refine hK.out _ _ h4.2.1 (fun hHeld => ?_)
          clear hK K
          (try simp only [Act.put, List.setIfInBounds_toArray, List.set_cons_zero, List.set_cons_succ])
          refine takeH (i := 11) (k := 30) (v := .agg #[.string p1, .string p3, .int .i64 (numI p5.data.toList)]) rfl (by rfl) (by kernel_rfl) (by kernel_rfl) (by kernel_rfl) (fun _ _ _ h => h) (by rfl) ?_ hHeld ?_
          · intro w1 hSw; obtain ⟨q0, q1, q2, q3, q4, q5, q6, _⟩ := arr_seven hSw; go_simp
          (try simp only [Act.put, List.setIfInBounds_toArray, List.set_cons_zero, List.set_cons_succ])
          refine wpAnyH_ready (rs := [12]) (by kernel_rfl) (by simp) ?_
          refine AllReadyH.cons rfl (fun K hK => ?_) AllReadyH.nil
          obtain ⟨b0, b1, b2, g0, g1, g2⟩ := arr_three h4.1
          have hzX := arr_lt h4.1
          rw [if_pos (by rfl)]
          go_simp
          refine hK.out _ _ (arr_far3 h4.2.1 (by omega) _ _ _) (fun hHeld => ?_)
          clear hK K
          (try simp only [Act.put, List.setIfInBounds_toArray, List.set_cons_zero, List.set_cons_succ])
          refine wpAnyH_done (by kernel_rfl) ?_ _
          go_wp2
          exact bodyPost_ret (v := hdLV p1.data.toList p3.data.toList (numI p5.data.toList)) (by simp [results, Tryz.results88, go_sem, b0, b1, b2, hzX, hdLV, strOf_toList]; try omega) rfl ⟨⟨_, _, _, rfl, HA.out, by rw [size_data]; exact hp1, by rw [size_data]; exact hp3⟩, below_set3 h4.2.2 (Nat.le_refl _) _ _ _⟩
        · rw [if_pos (by rfl)]
          go_simp
          have h2 := h1.new (.cells #[.string p3] 9)
          refine hK.out _ _ h2.2.1 (fun hHeld => ?_)
          clear hK K
          (try simp only [Act.put, List.setIfInBounds_toArray, List.set_cons_zero, List.set_cons_succ])
          refine wpAnyH_ready (rs := [4]) (by kernel_rfl) (by simp) ?_
          refine AllReadyH.cons rfl (fun K hK => ?_) AllReadyH.nil
          rw [if_pos (by rfl)]
          go_simp
          go_fit (joined_at _ p1 _ hq1 (one_old wm p1 (.cells #[.string p3] 9) _))
          rintro e wa ⟨rfl, hba⟩
          have h3 := h2.on hba
          refine hK.out _ _ h3.2.1 (fun hHeld => ?_)
          clear hK K
          (try simp only [Act.put, List.setIfInBounds_toArray, List.set_cons_zero, List.set_cons_succ])
          refine wpAnyH_ready (rs := [9]) (by kernel_rfl) (by simp) ?_
          refine AllReadyH.cons rfl (fun K hK => ?_) AllReadyH.nil
          rw [if_pos (by rfl)]
          go_simp
          go_fit (joined_at _ p3 _ hq3 ((hba.cell (p := ⟨wm.heap.size + 1, 0, none⟩) (by simp)).trans (one_over wm p3 (.cells #[.string p1] 9) _)))
          rintro e wb ⟨rfl, hbb⟩
          have h4 := h3.on hbb
          refine hK.out _ _ h4.2.1 (fun hHeld => ?_)
          clear hK K
          (try simp only [Act.put, List.setIfInBounds_toArray, List.set_cons_zero, List.set_cons_succ])
          refine takeH (i := 11) (k := 30) (v := .agg #[.string p1, .string p3, .int .i64 (numI p5.data.toList)]) rfl (by rfl) (by kernel_rfl) (by kernel_rfl) (by kernel_rfl) (fun _ _ _ h => h) (by rfl) ?_ hHeld ?_
          · intro w1 hSw; obtain ⟨q0, q1, q2, q3, q4, q5, q6, _⟩ := arr_seven hSw; go_simp
          (try simp only [Act.put, List.setIfInBounds_toArray, List.set_cons_zero, List.set_cons_succ])
          refine wpAnyH_ready (rs := [12]) (by kernel_rfl) (by simp) ?_
          refine AllReadyH.cons rfl (fun K hK => ?_) AllReadyH.nil
          obtain ⟨b0, b1, b2, g0, g1, g2⟩ := arr_three h4.1
          have hzX := arr_lt h4.1
          rw [if_pos (by rfl)]
          go_simp
          refine hK.out _ _ (arr_far3 h4.2.1 (by omega) _ _ _) (fun hHeld => ?_)
          clear hK K
          (try simp only [Act.put, List.setIfInBounds_toArray, List.set_cons_zero, List.set_cons_succ])
          refine wpAnyH_done (by kernel_rfl) ?_ _
          go_wp2
          exact bodyPost_ret (v := hdLV p1.data.toList p3.data.toList (numI p5.data.toList)) (by simp [results, Tryz.results88, go_sem, b0, b1, b2, hzX, hdLV, strOf_toList]; try omega) rfl ⟨⟨_, _, _, rfl, HA.out, by rw [size_data]; exact hp1, by rw [size_data]; exact hp3⟩, below_set3 h4.2.2 (Nat.le_refl _) _ _ _⟩
      · rw [if_pos (by rfl)]
        go_simp
        have h1 := h0.new (.cells #[.string p3] 9)
        refine hK.out _ _ h1.2.1 (fun hHeld => ?_)
        clear hK K
        (try simp only [Act.put, List.setIfInBounds_toArray, List.set_cons_zero, List.set_cons_succ])
        refine wpAnyH_ready (rs := [3]) (by kernel_rfl) (by simp) ?_
        refine AllReadyH.cons rfl (fun K hK => ?_) AllReadyH.nil
        rw [if_pos (by rfl)]
        go_simp
        have h2 := h1.new (.cells #[.string p1] 9)
        refine hK.out _ _ h2.2.1 (fun hHeld => ?_)
        clear hK K
        (try simp only [Act.put, List.setIfInBounds_toArray, List.set_cons_zero, List.set_cons_succ])
        refine wpAnyH_ready (rs := [4]) (by kernel_rfl) (by simp) ?_
        refine AllReadyH.cons rfl (fun K hK => ?_) AllReadyH.nil
        rw [if_pos (by rfl)]
        go_simp
        go_fit (joined_at _ p1 _ hq1 (one_over wm p1 (.cells #[.string p3] 9) _))
        rintro e wa ⟨rfl, hba⟩
        have h3 := h2.on hba
        refine hK.out _ _ h3.2.1 (fun hHeld => ?_)
        clear hK K
        (try simp only [Act.put, List.setIfInBounds_toArray, List.set_cons_zero, List.set_cons_succ])
        refine wpAnyH_ready (rs := [9]) (by kernel_rfl) (by simp) ?_
        refine AllReadyH.cons rfl (fun K hK => ?_) AllReadyH.nil
        rw [if_pos (by rfl)]
        go_simp
        go_fit (joined_at _ p3 _ hq3 ((hba.cell (p := ⟨wm.heap.size, 0, none⟩) (by simp; omega)).trans (one_old wm p3 (.cells #[.string p1] 9) _)))
        rintro e wb ⟨rfl, hbb⟩
        have h4 := h3.on hbb
        refine hK.out _ _ h4.2.1 (fun hHeld => ?_)
        clear hK K
        (try simp only [Act.put, List.setIfInBounds_toArray, List.set_cons_zero, List.set_cons_succ])
        refine takeH (i := 11) (k := 30) (v := .agg #[.string p1, .string p3, .int .i64 (numI p5.data.toList)]) rfl (by rfl) (by kernel_rfl) (by kernel_rfl) (by kernel_rfl) (fun _ _ _ h => h) (by rfl) ?_ hHeld ?_
        · intro w1 hSw; obtain ⟨q0, q1, q2, q3, q4, q5, q6, _⟩ := arr_seven hSw; go_simp
        (try simp only [Act.put, List.setIfInBounds_toArray, List.set_cons_zero, List.set_cons_succ])
        refine wpAnyH_ready (rs := [12]) (by kernel_rfl) (by simp) ?_
        refine AllReadyH.cons rfl (fun K hK => ?_) AllReadyH.nil
        obtain ⟨b0, b1, b2, g0, g1, g2⟩ := arr_three h4.1
        have hzX := arr_lt h4.1
        rw [if_pos (by rfl)]
        go_simp
        refine hK.out _ _ (arr_far3 h4.2.1 (by omega) _ _ _) (fun hHeld => ?_)
        clear hK K
        (try simp only [Act.put, List.setIfInBounds_toArray, List.set_cons_zero, List.set_cons_succ])
        refine wpAnyH_done (by kernel_rfl) ?_ _
        go_wp2
        exact bodyPost_ret (v := hdLV p1.data.toList p3.data.toList (numI p5.data.toList)) (by simp [results, Tryz.results88, go_sem, b0, b1, b2, hzX, hdLV, strOf_toList]; try omega) rfl ⟨⟨_, _, _, rfl, HA.out, by rw [size_data]; exact hp1, by rw [size_data]; exact hp3⟩, below_set3 h4.2.2 (Nat.le_refl _) _ _ _⟩
  · have h7' : ((q : Int) + 1 != 7) = true := by rw [bne_iff_ne]; omega
    have HA : Hid (∀ f' o' n', ¬ okH f' o' n' s.data.toList) := Lib.hid (fun f' o' n' h => by
      obtain ⟨a, b, c, d, h1, _⟩ := okH_I h
      have e := congrArg List.length (HD.out.trans h1)
      simp at e
      omega)
    clear HB HD hwl
    go_enter Tryz.func88, Tryz.ntmps88
    go_wp2_with (go_at_call 25; go_fit (i1 _); rintro e w1 ⟨rfl, rfl⟩)
    exact bodyPost_ret (v := hdLV [] [] 0) (by simp [results, Tryz.results88, go_sem, hdLV, strOf]) rfl ⟨⟨[], [], 0, rfl, fun f' o' n' h => absurd h (HA.out f' o' n'), Nat.zero_le _, Nat.zero_le _⟩, ((Below.refl _ _).alloc (Nat.le_refl _) _).alloc (by simp) _⟩
end Go.Proofs.YtgcfognljkebjaaGreatDoor

namespace Go.Proofs.YtgcfognljkebjaaGreatDoor
set_option linter.unusedSimpArgs false
set_option linter.unusedVariables false
open Go.RowKit Go.Joins

/-- What a line is. -/
inductive LineK where
  | empty
  | close
  | stanza (x : StL)
  | head (f o : List UInt8) (n : Int)
  | wrong
def closeL : List UInt8 := [60, 47, 115, 116, 114, 101, 97, 109, 62]
def hdF (T : List UInt8) : StL := (partsS (T.drop 7).length zeroL (T.drop 7)).1
open Classical in
noncomputable def lineK (T : List UInt8) : LineK :=
  if T = [] then .empty else if T = closeL then .close else if T.length ≤ 20000 ∧ okX (rdS T) T then .stanza (rdS T)
  else if okH (hdF T).f (hdF T).o (hdF T).n T then .head (hdF T).f (hdF T).o (hdF T).n else .wrong
def lineV : LineK → Value
  | .empty => .iface 129 (.agg #[])
  | .close => .iface 92 (.agg #[])
  | .stanza x => .iface 90 (stLV x)
  | .head f o n => .iface 88 (hdLV f o n)
  | .wrong => .iface 93 (.agg #[])
theorem hdF_of {f o : List UInt8} {n : Int} {T : List UInt8} (h : okH f o n T) : (hdF T).f = f ∧ (hdF T).o = o ∧ (hdF T).n = n := by
  have e := (okH_S h).2
  unfold hdF
  rw [e]
  exact ⟨rfl, rfl, rfl⟩
theorem srV_cases2 {T : List UInt8} : (T.length ≤ 20000 ∧ okX (rdS T) T ∧ srV T = outV (rdS T) 0) ∨ (¬ (T.length ≤ 20000 ∧ okX (rdS T) T) ∧ ∃ c, c ≠ 0 ∧ srV T = outV zeroL c) := by
  unfold srV
  split
  · exact .inr ⟨fun h => by omega, 2, by decide, rfl⟩
  · split
    · rename_i h1 h2
      exact .inl ⟨by omega, h2, rfl⟩
    · rename_i h1 h2
      exact .inr ⟨fun h => h2 h.2, 3, by decide, rfl⟩
set_option maxRecDepth 100000 in
set_option maxHeartbeats 1000000 in
theorem impl_line (s : ByteArray) (w : World) (hs : s.size ≤ 100000) (hm : MaxL w) (hp : TabP w) (hE : ErrV w) :
    Calls Tryz.prog 67 #[.string s] w fun e w' => e = .returned (lineV (lineK s.data.toList)) ∧ Below w.heap.size w w' := by
  obtain ⟨k, hk⟩ : ∃ k, lineK s.data.toList = k := ⟨_, rfl⟩
  rw [hk]
  unfold lineK at hk
  by_cases h0 : s.data.toList = []
  · rw [if_pos h0] at hk
    subst hk
    have e1 : s.toList = [] := by rw [ByteArray.toList_eq]; exact h0
    clear h0 hm hp hE
    go_enter Tryz.func67, Tryz.ntmps67
    go_wp2
    go_ret
    exact ⟨rfl, Below.refl _ _⟩
  · have n1 : s.toList ≠ [] := by rw [ByteArray.toList_eq]; exact h0
    have n2 : s.toList.isEmpty = false := by cases h : s.toList with | nil => exact absurd h n1 | cons a l => rfl
    rw [if_neg h0] at hk
    by_cases h1 : s.data.toList = closeL
    · rw [if_pos h1] at hk
      subst hk
      have e1 : s.toList = [60, 47, 115, 116, 114, 101, 97, 109, 62] := by rw [ByteArray.toList_eq]; exact h1
      clear h0 h1 hm hp hE n1 n2
      go_enter Tryz.func67, Tryz.ntmps67
      go_wp2
      go_ret
      exact ⟨rfl, Below.refl _ _⟩
    · have m1 : (s.toList == [60, 47, 115, 116, 114, 101, 97, 109, 62]) = false := by rw [beq_eq_false_iff_ne, ByteArray.toList_eq]; exact h1
      rw [if_neg h1] at hk
      have i1 := impl_sread s w (by omega) hm hp hE
      rcases srV_cases2 (T := s.data.toList) with ⟨l1, hok, hv⟩ | ⟨hno, c, hc, hv⟩
      · rw [if_pos ⟨l1, hok⟩] at hk
        subst hk
        rw [hv] at i1
        obtain ⟨x, hx⟩ : ∃ x, rdS s.data.toList = x := ⟨_, rfl⟩
        rw [hx] at i1 ⊢
        unfold outV at i1
        unfold lineV stLV
        clear h0 h1 hm hp hE l1 hok hv hx
        go_enter Tryz.func67, Tryz.ntmps67
        go_wp2_with (go_at_call 87; go_fit i1; rintro e w1 ⟨rfl, hb1⟩)
        go_ret
        exact ⟨rfl, hb1.alloc hb1.size _⟩
      · rw [if_neg hno] at hk
        rw [hv] at i1
        unfold outV at i1
        have hc0 : (c == 0) = false := by rw [beq_eq_false_iff_ne]; exact hc
        have HM := Lib.hid (fun W (h : Below w.heap.size w W) => And.intro (hm.below h hm.pos) (And.intro (hp.below h) (hE.below h)))
        have HK := Lib.hid hk
        have HN0 := Lib.hid h0
        clear h0 h1 hm hp hE hv hno hc hk
        go_enter Tryz.func67, Tryz.ntmps67
        go_wp2_with (go_at_call 87; go_fit i1; rintro e w1 ⟨rfl, hb1⟩)
        have hq1 := hb1.alloc hb1.size (.cells #[.string (strOf zeroL.k), .string (strOf zeroL.t), .string (strOf zeroL.f), .string (strOf zeroL.o), .int .i64 zeroL.n, .string (strOf zeroL.b), .int .i64 c] 81)
        refine (impl_headparts s _ hs (HM.out _ hq1).1 (HM.out _ hq1).2.2).mono ?_
        rintro e w2 ⟨⟨f, o, n, rfl, hall, lf, lo⟩, hb2⟩
        replace hb2 := hq1.trans (hb2.mono hq1.size)
        have hq2 := hb2.alloc hb2.size (.cells #[.string (strOf f), .string (strOf o), .int .i64 n] 27)
        have i3 := fun W hm hp => impl_hdtext (strOf f) (strOf o) n W (by rw [strOf_size]; unfold maxLen; omega) (by rw [strOf_size]; unfold maxLen; omega) hm hp
        have HZ : Hid (∀ b, ((hdT (strOf f) (strOf o) n).toList == s.toList) = b → k = if b = true then .head f o n else .wrong) := Lib.hid (fun b hb => by
          rw [← HK.out]
          cases b with
          | true =>
            rw [beq_iff_eq, ByteArray.toList_eq, ByteArray.toList_eq] at hb
            have hok : okH f o n s.data.toList := hdT_okH HN0.out (by rw [strOf_toList]; exact WideShapes.bytes_inj hb)
            obtain ⟨e1, e2, e3⟩ := hdF_of hok
            rw [e1, e2, e3, if_pos hok, if_pos rfl]
          | false =>
            rw [if_neg Bool.false_ne_true, if_neg]
            intro hok
            obtain ⟨e1, e2, e3⟩ := hall _ _ _ hok
            rw [← e1, ← e2, ← e3] at hok
            have := okH_hdT hok
            rw [this, strOf_toList] at hb
            simp at hb)
        obtain ⟨Z, hZ⟩ : ∃ Z, hdT (strOf f) (strOf o) n = Z := ⟨_, rfl⟩
        rw [hZ] at i3 HZ
        obtain ⟨b, hb⟩ : ∃ b, (Z.toList == s.toList) = b := ⟨_, rfl⟩
        have HKK := Lib.hid (HZ.out b hb)
        clear hZ HZ HK HN0 hall
        unfold hdLV
        cases b
        · have HKF : Hid (k = .wrong) := Lib.hid HKK.out
          go_wp2_with (go_at_call 18; go_fit (i3 _ (HM.out _ hq2).1 (HM.out _ hq2).2.1); rintro e w3 ⟨rfl, hb3⟩)
          go_ret
          exact ⟨by rw [HKF.out]; rfl, hq2.trans (hb3.mono hq2.size)⟩
        · have HKF : Hid (k = .head f o n) := Lib.hid HKK.out
          go_wp2_with (go_at_call 18; go_fit (i3 _ (HM.out _ hq2).1 (HM.out _ hq2).2.1); rintro e w3 ⟨rfl, hb3⟩; obtain ⟨c0, c1, c2⟩ := (box_three hb3).1)
          go_ret
          exact ⟨by rw [HKF.out]; rfl, hq2.trans (hb3.mono hq2.size)⟩
end Go.Proofs.YtgcfognljkebjaaGreatDoor

namespace Go.Proofs.YtgcfognljkebjaaGreatDoor
set_option linter.unusedSimpArgs false
set_option linter.unusedVariables false
open Go.RowKit Go.Joins

/-- Is a line permitted in this state? -/
def follows (op cl : Bool) : LineK → Bool
  | .empty => true
  | .close => op && !cl
  | .stanza _ => op && !cl
  | .head _ _ _ => !op
  | .wrong => false
def nextK (op cl : Bool) (k : LineK) : LineK := if follows op cl k = true then k else .wrong
theorem box_seven7 {w w1 : World} {a b c d e f g : Value} {t : Nat} (h : Below (w.alloc (.cells #[a, b, c, d, e, f, g] t)).heap.size (w.alloc (.cells #[a, b, c, d, e, f, g] t)) w1) : Arr w1 w.heap.size t [a, b, c, d, e, f, g] ∧ Below w.heap.size w w1 :=
  ⟨(h.block w.heap.size (by simp)).trans (Arr.fresh w t [a, b, c, d, e, f, g]), below_one h⟩
theorem fol_empty (f o : ByteArray) (n : Int) (r : ByteArray) (op cl de : Bool) (w : World) :
    Calls Tryz.prog 200 #[.agg #[], .agg #[.string f, .string o, .int .i64 n, .string r, .bool op, .bool cl, .bool de]] w fun e w' => e = .returned (.bool (follows op cl .empty)) ∧ Below w.heap.size w w' := by
  unfold follows
  cases op <;> cases cl <;>
    (go_enter Tryz.func200, Tryz.ntmps200
     go_wp2
     go_ret
     exact ⟨ret_bool (by simp), ((Below.refl _ _).alloc (Nat.le_refl _) _).alloc (by simp) _⟩)
theorem fol_close (f o : ByteArray) (n : Int) (r : ByteArray) (op cl de : Bool) (w : World) :
    Calls Tryz.prog 198 #[.agg #[], .agg #[.string f, .string o, .int .i64 n, .string r, .bool op, .bool cl, .bool de]] w fun e w' => e = .returned (.bool (follows op cl .close)) ∧ Below w.heap.size w w' := by
  unfold follows
  cases op <;> cases cl <;>
    (go_enter Tryz.func198, Tryz.ntmps198
     go_wp2
     go_ret
     exact ⟨ret_bool (by simp), ((Below.refl _ _).alloc (Nat.le_refl _) _).alloc (by simp) _⟩)
theorem fol_stanza (x : StL) (f o : ByteArray) (n : Int) (r : ByteArray) (op cl de : Bool) (w : World) :
    Calls Tryz.prog 197 #[.agg #[.string (strOf x.k), .string (strOf x.t), .string (strOf x.f), .string (strOf x.o), .int .i64 x.n, .string (strOf x.b)], .agg #[.string f, .string o, .int .i64 n, .string r, .bool op, .bool cl, .bool de]] w fun e w' => e = .returned (.bool (follows op cl (.stanza x))) ∧ Below w.heap.size w w' := by
  unfold follows
  cases op <;> cases cl <;>
    (go_enter Tryz.func197, Tryz.ntmps197
     go_wp2
     go_ret
     exact ⟨ret_bool (by simp), ((Below.refl _ _).alloc (Nat.le_refl _) _).alloc (by simp) _⟩)
theorem fol_head (hf ho : List UInt8) (hn : Int) (f o : ByteArray) (n : Int) (r : ByteArray) (op cl de : Bool) (w : World) :
    Calls Tryz.prog 196 #[.agg #[.string (strOf hf), .string (strOf ho), .int .i64 hn], .agg #[.string f, .string o, .int .i64 n, .string r, .bool op, .bool cl, .bool de]] w fun e w' => e = .returned (.bool (follows op cl (.head hf ho hn))) ∧ Below w.heap.size w w' := by
  unfold follows
  cases op <;> cases cl <;>
    (go_enter Tryz.func196, Tryz.ntmps196
     go_wp2
     go_ret
     exact ⟨ret_bool (by simp), ((Below.refl _ _).alloc (Nat.le_refl _) _).alloc (by simp) _⟩)
theorem fol_wrong (f o : ByteArray) (n : Int) (r : ByteArray) (op cl de : Bool) (w : World) :
    Calls Tryz.prog 199 #[.agg #[], .agg #[.string f, .string o, .int .i64 n, .string r, .bool op, .bool cl, .bool de]] w fun e w' => e = .returned (.bool (follows op cl .wrong)) ∧ Below w.heap.size w w' := by
  unfold follows
  cases op <;> cases cl <;>
    (go_enter Tryz.func199, Tryz.ntmps199
     go_wp2
     go_ret
     exact ⟨ret_bool (by simp), ((Below.refl _ _).alloc (Nat.le_refl _) _).alloc (by simp) _⟩)
set_option maxRecDepth 100000 in
set_option maxHeartbeats 1000000 in
theorem impl_next (f o : ByteArray) (n : Int) (r : ByteArray) (op cl de : Bool) (s : ByteArray) (w : World) (hs : s.size ≤ 100000) (hm : MaxL w) (hp : TabP w) (hE : ErrV w) :
    Calls Tryz.prog 50 #[.agg #[.string f, .string o, .int .i64 n, .string r, .bool op, .bool cl, .bool de], .string s] w fun e w' => e = .returned (lineV (nextK op cl (lineK s.data.toList))) ∧ Below w.heap.size w w' := by
  have HM := Lib.hid (fun (o : Obj) => And.intro (hd_max hm o) (And.intro (hp.below ((Below.refl w.heap.size w).alloc (Nat.le_refl _) o)) (hE.below ((Below.refl w.heap.size w).alloc (Nat.le_refl _) o))))
  have i1 := fun W hm hp hE => impl_line s W hs hm hp hE
  obtain ⟨k, hk⟩ : ∃ k, lineK s.data.toList = k := ⟨_, rfl⟩
  rw [hk] at i1 ⊢
  clear hk hm hp hE
  unfold nextK
  cases k with
  | empty =>
    unfold lineV at i1
    dsimp only at i1
    have hme : ∀ W, (method 318 129 (.agg #[]) "loop.example/g00387/impl.follows").run Tryz.prog W = .ok (200, .agg #[]) W := fun _ => by kernel_rfl
    have i2 := fun W => fol_empty f o n r op cl de W
    obtain ⟨b, hb0⟩ : ∃ b, follows op cl .empty = b := ⟨_, rfl⟩
    rw [hb0] at i2 ⊢
    clear hb0
    cases b
    · rw [if_neg Bool.false_ne_true]
      go_enter Tryz.func50, Tryz.ntmps50
      go_wp2_with (first
        | (go_at_call 67; go_fit (i1 _ (HM.out _).1 (HM.out _).2.1 (HM.out _).2.2); rintro e w1 ⟨rfl, hb⟩; obtain ⟨hA, hB⟩ := box_seven7 hb; obtain ⟨b0, b1, b2, b3, b4, b5, b6, g0, g1, g2, g3, g4, g5, g6⟩ := arr_seven hA)
        | (go_at_call 200; go_fit (i2 _); rintro e w2 ⟨rfl, hb2⟩))
      go_ret
      exact ⟨rfl, hB.trans (hb2.mono hB.size)⟩
    · rw [if_pos rfl]
      go_enter Tryz.func50, Tryz.ntmps50
      go_wp2_with (first
        | (go_at_call 67; go_fit (i1 _ (HM.out _).1 (HM.out _).2.1 (HM.out _).2.2); rintro e w1 ⟨rfl, hb⟩; obtain ⟨hA, hB⟩ := box_seven7 hb; obtain ⟨b0, b1, b2, b3, b4, b5, b6, g0, g1, g2, g3, g4, g5, g6⟩ := arr_seven hA)
        | (go_at_call 200; go_fit (i2 _); rintro e w2 ⟨rfl, hb2⟩))
      go_ret
      exact ⟨rfl, hB.trans (hb2.mono hB.size)⟩
  | close =>
    unfold lineV at i1
    dsimp only at i1
    have hme : ∀ W, (method 318 92 (.agg #[]) "loop.example/g00387/impl.follows").run Tryz.prog W = .ok (198, .agg #[]) W := fun _ => by kernel_rfl
    have i2 := fun W => fol_close f o n r op cl de W
    obtain ⟨b, hb0⟩ : ∃ b, follows op cl .close = b := ⟨_, rfl⟩
    rw [hb0] at i2 ⊢
    clear hb0
    cases b
    · rw [if_neg Bool.false_ne_true]
      go_enter Tryz.func50, Tryz.ntmps50
      go_wp2_with (first
        | (go_at_call 67; go_fit (i1 _ (HM.out _).1 (HM.out _).2.1 (HM.out _).2.2); rintro e w1 ⟨rfl, hb⟩; obtain ⟨hA, hB⟩ := box_seven7 hb; obtain ⟨b0, b1, b2, b3, b4, b5, b6, g0, g1, g2, g3, g4, g5, g6⟩ := arr_seven hA)
        | (go_at_call 198; go_fit (i2 _); rintro e w2 ⟨rfl, hb2⟩))
      go_ret
      exact ⟨rfl, hB.trans (hb2.mono hB.size)⟩
    · rw [if_pos rfl]
      go_enter Tryz.func50, Tryz.ntmps50
      go_wp2_with (first
        | (go_at_call 67; go_fit (i1 _ (HM.out _).1 (HM.out _).2.1 (HM.out _).2.2); rintro e w1 ⟨rfl, hb⟩; obtain ⟨hA, hB⟩ := box_seven7 hb; obtain ⟨b0, b1, b2, b3, b4, b5, b6, g0, g1, g2, g3, g4, g5, g6⟩ := arr_seven hA)
        | (go_at_call 198; go_fit (i2 _); rintro e w2 ⟨rfl, hb2⟩))
      go_ret
      exact ⟨rfl, hB.trans (hb2.mono hB.size)⟩
  | stanza x =>
    unfold lineV stLV hdLV at i1
    dsimp only at i1
    have hme : ∀ W, (method 318 90 (.agg #[.string (strOf x.k), .string (strOf x.t), .string (strOf x.f), .string (strOf x.o), .int .i64 x.n, .string (strOf x.b)]) "loop.example/g00387/impl.follows").run Tryz.prog W = .ok (197, .agg #[.string (strOf x.k), .string (strOf x.t), .string (strOf x.f), .string (strOf x.o), .int .i64 x.n, .string (strOf x.b)]) W := fun _ => by kernel_rfl
    have i2 := fun W => fol_stanza x f o n r op cl de W
    obtain ⟨b, hb0⟩ : ∃ b, follows op cl (.stanza x) = b := ⟨_, rfl⟩
    rw [hb0] at i2 ⊢
    clear hb0
    cases b
    · rw [if_neg Bool.false_ne_true]
      go_enter Tryz.func50, Tryz.ntmps50
      go_wp2_with (first
        | (go_at_call 67; go_fit (i1 _ (HM.out _).1 (HM.out _).2.1 (HM.out _).2.2); rintro e w1 ⟨rfl, hb⟩; obtain ⟨hA, hB⟩ := box_seven7 hb; obtain ⟨b0, b1, b2, b3, b4, b5, b6, g0, g1, g2, g3, g4, g5, g6⟩ := arr_seven hA)
        | (go_at_call 197; go_fit (i2 _); rintro e w2 ⟨rfl, hb2⟩))
      go_ret
      exact ⟨rfl, hB.trans (hb2.mono hB.size)⟩
    · rw [if_pos rfl]
      go_enter Tryz.func50, Tryz.ntmps50
      go_wp2_with (first
        | (go_at_call 67; go_fit (i1 _ (HM.out _).1 (HM.out _).2.1 (HM.out _).2.2); rintro e w1 ⟨rfl, hb⟩; obtain ⟨hA, hB⟩ := box_seven7 hb; obtain ⟨b0, b1, b2, b3, b4, b5, b6, g0, g1, g2, g3, g4, g5, g6⟩ := arr_seven hA)
        | (go_at_call 197; go_fit (i2 _); rintro e w2 ⟨rfl, hb2⟩))
      go_ret
      exact ⟨rfl, hB.trans (hb2.mono hB.size)⟩
  | head hf ho hn =>
    unfold lineV stLV hdLV at i1
    dsimp only at i1
    have hme : ∀ W, (method 318 88 (.agg #[.string (strOf hf), .string (strOf ho), .int .i64 hn]) "loop.example/g00387/impl.follows").run Tryz.prog W = .ok (196, .agg #[.string (strOf hf), .string (strOf ho), .int .i64 hn]) W := fun _ => by kernel_rfl
    have i2 := fun W => fol_head hf ho hn f o n r op cl de W
    obtain ⟨b, hb0⟩ : ∃ b, follows op cl (.head hf ho hn) = b := ⟨_, rfl⟩
    rw [hb0] at i2 ⊢
    clear hb0
    cases b
    · rw [if_neg Bool.false_ne_true]
      go_enter Tryz.func50, Tryz.ntmps50
      go_wp2_with (first
        | (go_at_call 67; go_fit (i1 _ (HM.out _).1 (HM.out _).2.1 (HM.out _).2.2); rintro e w1 ⟨rfl, hb⟩; obtain ⟨hA, hB⟩ := box_seven7 hb; obtain ⟨b0, b1, b2, b3, b4, b5, b6, g0, g1, g2, g3, g4, g5, g6⟩ := arr_seven hA)
        | (go_at_call 196; go_fit (i2 _); rintro e w2 ⟨rfl, hb2⟩))
      go_ret
      exact ⟨rfl, hB.trans (hb2.mono hB.size)⟩
    · rw [if_pos rfl]
      go_enter Tryz.func50, Tryz.ntmps50
      go_wp2_with (first
        | (go_at_call 67; go_fit (i1 _ (HM.out _).1 (HM.out _).2.1 (HM.out _).2.2); rintro e w1 ⟨rfl, hb⟩; obtain ⟨hA, hB⟩ := box_seven7 hb; obtain ⟨b0, b1, b2, b3, b4, b5, b6, g0, g1, g2, g3, g4, g5, g6⟩ := arr_seven hA)
        | (go_at_call 196; go_fit (i2 _); rintro e w2 ⟨rfl, hb2⟩))
      go_ret
      exact ⟨rfl, hB.trans (hb2.mono hB.size)⟩
  | wrong =>
    unfold lineV at i1
    dsimp only at i1
    have hme : ∀ W, (method 318 93 (.agg #[]) "loop.example/g00387/impl.follows").run Tryz.prog W = .ok (199, .agg #[]) W := fun _ => by kernel_rfl
    have i2 := fun W => fol_wrong f o n r op cl de W
    obtain ⟨b, hb0⟩ : ∃ b, follows op cl .wrong = b := ⟨_, rfl⟩
    rw [hb0] at i2 ⊢
    clear hb0
    cases b
    · rw [if_neg Bool.false_ne_true]
      go_enter Tryz.func50, Tryz.ntmps50
      go_wp2_with (first
        | (go_at_call 67; go_fit (i1 _ (HM.out _).1 (HM.out _).2.1 (HM.out _).2.2); rintro e w1 ⟨rfl, hb⟩; obtain ⟨hA, hB⟩ := box_seven7 hb; obtain ⟨b0, b1, b2, b3, b4, b5, b6, g0, g1, g2, g3, g4, g5, g6⟩ := arr_seven hA)
        | (go_at_call 199; go_fit (i2 _); rintro e w2 ⟨rfl, hb2⟩))
      go_ret
      exact ⟨rfl, hB.trans (hb2.mono hB.size)⟩
    · rw [if_pos rfl]
      go_enter Tryz.func50, Tryz.ntmps50
      go_wp2_with (first
        | (go_at_call 67; go_fit (i1 _ (HM.out _).1 (HM.out _).2.1 (HM.out _).2.2); rintro e w1 ⟨rfl, hb⟩; obtain ⟨hA, hB⟩ := box_seven7 hb; obtain ⟨b0, b1, b2, b3, b4, b5, b6, g0, g1, g2, g3, g4, g5, g6⟩ := arr_seven hA)
        | (go_at_call 199; go_fit (i2 _); rintro e w2 ⟨rfl, hb2⟩))
      go_ret
      exact ⟨rfl, hB.trans (hb2.mono hB.size)⟩
end Go.Proofs.YtgcfognljkebjaaGreatDoor
