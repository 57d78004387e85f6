/- Draws for halves: what stays, a source's numbers; a drawn sub. -/
import Derived.Test.YtgfpcmfcnphalaaHfDropB
import Derived.Test.YtgfpcmfcnphalaaEdgeWalks
import Derived.Test.YtgfpcmfcnphalaaSmJoin
namespace Go.Proofs.Ytgfpcmfcnphalaa
set_option linter.unusedSimpArgs false
set_option linter.unusedVariables false
open Go.RowKit Go.Joins

theorem srcH_on {w w1 : World} {B g : Nat} (h : Src w B g) (hb : Below w.heap.size w w1) : Src w1 B g := by
  obtain ⟨hBg, a, len, cap, at_, mix, size, hA, h1, h2, h3, h4, h5, h6, h7, hrow⟩ := id h
  refine ⟨hBg, a, len, cap, at_, mix, size, (hb.block _ (arr_ltH hA)).trans hA, h1, h2, h3, h4, h5, h6, h7, ?_⟩
  intro k hk
  obtain ⟨b, off, z, ha, hB, hc, h0, h1⟩ := hrow k hk
  exact ⟨b, off, z, ha, hB, (hb.cell (p := ⟨b, off + k, none⟩) (lt_of_cell hc)).trans hc, h0, h1⟩
theorem grownH_on {w w1 w2 : World} {r : Option Nat} (h : w.grownBy w1 r) (hb : Below w1.heap.size w1 w2) : w.grownBy w2 r :=
  ⟨hb.os.trans h.os, hb.tape.trans h.tape, hb.output.trans h.output, Nat.le_trans h.size hb.size, fun k hk hne => (hb.block k (Nat.lt_of_lt_of_le hk h.size)).trans (h.block k hk hne)⟩
theorem arr_src {W W2 : World} {g b t : Nat} {cs : List Value} (h : Arr W b t cs) (hg : W.grownBy W2 (some g)) (hne : b ≠ g) : Arr W2 b t cs := (hg.block b (arr_ltH h) (fun e => hne (Option.some.inj e))).trans h
/-- The boxes that a call has made first, besides a source that lies lower. -/
structure HfD (B g : Nat) (w W : World) (l : List (Nat × List Value)) : Prop where
  src : Src W B g
  gr : w.grownBy W (some g)
  bx : ∀ k (h : k < l.length), Arr W (w.heap.size + k) l[k].1 l[k].2
  lt : g < w.heap.size
theorem HfD.on {B g : Nat} {w W W2 : World} {l : List (Nat × List Value)} (h : HfD B g w W l) (hb : Below W.heap.size W W2) : HfD B g w W2 l :=
  ⟨srcH_on h.src hb, grownH_on h.gr hb, fun k hk => (hb.block _ (arr_ltH (h.bx k hk))).trans (h.bx k hk), h.lt⟩
theorem HfD.draw {B g : Nat} {w W W2 : World} {l : List (Nat × List Value)} (h : HfD B g w W l) (hS : Src W2 B g) (hg : W.grownBy W2 (some g)) : HfD B g w W2 l :=
  ⟨hS, grown_same h.gr hg, fun k hk => arr_src (h.bx k hk) hg (by have := h.lt; omega), h.lt⟩
theorem hfd_start {B g : Nat} {w W : World} {l : List (Nat × List Value)} (hS : Src w B g) (h : Bx w W l) : HfD B g w W l :=
  ⟨srcH_on hS h.1, ⟨h.1.os, h.1.tape, h.1.output, h.1.size, fun k hk _ => h.1.block k hk⟩, h.2, hS.lt⟩
/-- A cell of one of the boxes is written. -/
theorem HfD.put {B g : Nat} {w W : World} {l : List (Nat × List Value)} (h : HfD B g w W l) (j : Nat) (hj : j < l.length) (i : Nat) (u : Value) : HfD B g w (W.setCell ⟨w.heap.size + j, i, none⟩ u) (l.set j (l[j].1, l[j].2.set i u)) := by
  have hlt := h.lt
  have hBg := h.src.1
  refine ⟨h.src.other (r := some (w.heap.size + j)) ⟨rfl, rfl, rfl, by simp [World.setCell], fun k hk hne => heap_setCell_other W ⟨w.heap.size + j, i, none⟩ k u (fun e => hne (by rw [e]))⟩ (fun q e => by injection e; omega) h.src.lt (fun q e => by injection e; omega), ?_, fun k hk => ?_, hlt⟩
  · exact ⟨h.gr.os, h.gr.tape, h.gr.output, by simpa [World.setCell] using h.gr.size, fun k hk hne => (heap_setCell_other W ⟨w.heap.size + j, i, none⟩ k u (by show k ≠ w.heap.size + j; omega)).trans (h.gr.block k hk hne)⟩
  · by_cases e : k = j
    · subst e
      rw [List.getElem_set_self]
      exact Arr.put (h.bx k hj) i u
    · rw [List.getElem_set_ne (by omega)]
      exact arr_farH (h.bx k (by simpa using hk)) (by omega) u
/-- The whole of one of the boxes is written. -/
theorem HfD.row {B g : Nat} {w W : World} {l : List (Nat × List Value)} (h : HfD B g w W l) (j : Nat) (hj : j < l.length) (cs : List Value) : HfD B g w (W.setRow (w.heap.size + j) cs.toArray) (l.set j (l[j].1, cs)) := by
  have hlt := h.lt
  have hBg := h.src.1
  refine ⟨h.src.other (r := some (w.heap.size + j)) ⟨rfl, rfl, rfl, by simp, fun k hk hne => setRow_other W _ k _ (fun e => hne (by rw [e]))⟩ (fun q e => by injection e; omega) h.src.lt (fun q e => by injection e; omega), ?_, fun k hk => ?_, hlt⟩
  · exact ⟨h.gr.os, h.gr.tape, h.gr.output, by simpa using h.gr.size, fun k hk hne => (setRow_other W _ k _ (by omega)).trans (h.gr.block k hk hne)⟩
  · by_cases e : k = j
    · subst e
      rw [List.getElem_set_self]
      exact setRow_heap W _ _ _ _ _ (h.bx k hj)
    · rw [List.getElem_set_ne (by omega)]
      exact (setRow_other W _ _ _ (by omega)).trans (h.bx k (by simpa using hk))
theorem max_any (a b : Int) (w : World) : Calls Try.prog 59 #[.int .i64 a, .int .i64 b] w fun e w' => (∃ z, e = .returned (.int .i64 z)) ∧ w' = w := by
  go_enter Try.func59, Try.ntmps59
  go_wp2
  all_goals (go_ret; exact ⟨⟨_, rfl⟩, rfl⟩)
theorem four_at {W : World} {b t : Nat} {o p q r : Int} (h : Arr W b t [.int .i64 o, .int .i64 p, .int .i64 q, .int .i64 r]) {i : Nat} (hi : i < 4) : ∃ z : Int, W.cell? ⟨b, i, none⟩ = some (.int .i64 z) := by
  match i, hi with
  | 0, _ => exact ⟨_, h.cell 0⟩
  | 1, _ => exact ⟨_, h.cell 1⟩
  | 2, _ => exact ⟨_, h.cell 2⟩
  | 3, _ => exact ⟨_, h.cell 3⟩
theorem three_at {W : World} {b t : Nat} {o p q : Int} (h : Arr W b t [.int .i64 o, .int .i64 p, .int .i64 q]) {i : Nat} (hi : i < 3) : ∃ z : Int, W.cell? ⟨b, i, none⟩ = some (.int .i64 z) := by
  match i, hi with
  | 0, _ => exact ⟨_, h.cell 0⟩
  | 1, _ => exact ⟨_, h.cell 1⟩
  | 2, _ => exact ⟨_, h.cell 2⟩
abbrev sbZ : List Value := [.int .i64 0, .int .i64 0]
theorem arr_belowH2 {w w1 : World} {b t : Nat} {cs : List Value} (h : Arr w b t cs) (hb : Below w.heap.size w w1) : Arr w1 b t cs := (hb.block b (arr_ltH h)).trans h
theorem HfD.far {B g : Nat} {w W : World} {l : List (Nat × List Value)} (h : HfD B g w W l) {b i : Nat} (hb : w.heap.size + l.length ≤ b) (u : Value) : HfD B g w (W.setCell ⟨b, i, none⟩ u) l := by
  have hlt := h.lt
  have hBg := h.src.1
  exact ⟨h.src.other (r := some b) ⟨rfl, rfl, rfl, by simp [World.setCell], fun k hk hne => heap_setCell_other W ⟨b, i, none⟩ k u (fun e => hne (by rw [e]))⟩ (fun q e => by injection e; omega) h.src.lt (fun q e => by injection e; omega), ⟨h.gr.os, h.gr.tape, h.gr.output, by simpa [World.setCell] using h.gr.size, fun k hk hne => (heap_setCell_other W ⟨b, i, none⟩ k u (by show k ≠ b; omega)).trans (h.gr.block k hk hne)⟩, fun k hk => arr_farH (h.bx k hk) (by omega) u, hlt⟩
set_option maxHeartbeats 2000000 in
theorem draw_sub (B g : Nat) (h : HfL) (w : World) (hS : Src w B g) : Calls Try.prog 40 #[.pointer (some ⟨g, 0, none⟩), hfL h] w fun e w' => (∃ x, e = .returned (sbL x)) ∧ Src w' B g ∧ w.grownBy w' (some g) := by
  have HD := Lib.hid (hfd_start hS (bx2 w 24 32 (hfC h) sbZ))
  have hlt := hS.lt
  clear hS
  go_enter Try.func40, Try.ntmps40
  go_wp2_with (first
    | (go_at_call 41; have _ := HD2; go_fit (src_one B g 2 _ (by omega) (srcH_on HD2.out.src ((Below.refl _ _).alloc (Nat.le_refl _) _))); rintro e w3 ⟨_, rfl, ⟨b, rfl⟩, hS3, hg3⟩; have HD3 := Lib.hid ((HD2.out.on ((Below.refl _ _).alloc (Nat.le_refl _) _)).draw hS3 hg3); have hz2 : w.heap.size + 1 < w2.heap.size := arr_ltH (HD2.out.bx 1 (show 1 < 2 by decide)); have H53 := Lib.hid (arr_src (Arr.fresh w2 32 [.int .i64 (1 + r1), .int .i64 (1 + r2)]) hg3 (by omega)); clear hS3 hg3; obtain ⟨p0, p1⟩ := sb_cells H53.out; obtain ⟨s0, s1⟩ := sb_cells (b := w.heap.size + 1) (HD3.out.bx 1 (show 1 < 2 by decide)); have s2 : w3.frozen? ⟨w.heap.size + 1, 0, none⟩ = false := (show Arr w3 (w.heap.size + 1) _ _ from HD3.out.bx 1 (show 1 < 2 by decide)).free 0; have s3 : w3.frozen? ⟨w.heap.size + 1, 1, none⟩ = false := (show Arr w3 (w.heap.size + 1) _ _ from HD3.out.bx 1 (show 1 < 2 by decide)).free 1; cases b)
    | (go_at_call 37; have _ := HD1; go_fit (src_n B g 3 _ (by omega) HD1.out.src); rintro e w2 ⟨_, rfl, ⟨r2, rfl, ha2, hb2⟩, hS2, hg2⟩; have HD2 := Lib.hid (HD1.out.draw hS2 hg2); clear hS2 hg2)
    | (go_at_call 37; go_fit (src_n B g 4 _ (by omega) HD.out.src); rintro e w1 ⟨_, rfl, ⟨r1, rfl, ha1, hb1⟩, hS1, hg1⟩; have HD1 := Lib.hid (HD.out.draw hS1 hg1); clear hS1 hg1))
  · have HE := (HD3.out.put 1 (show 1 < 2 by decide) 0 (.int .i64 (1 + r1))).put 1 (show 1 < 2 by decide) 1 (.int .i64 (1 + r2))
    obtain ⟨t0, t1⟩ := sb_cells (b := w.heap.size + 1) (HE.bx 1 (show 1 < 2 by decide))
    exact bodyPost_ret (v := sbL ⟨1 + r1, 1 + r2⟩) (by simp [results, Try.results40, go_sem, t0, t1]) rfl ⟨⟨_, rfl⟩, HE.src, HE.gr⟩
  · clear p0 p1 s0 s1 s2 s3
    refine region_join (List.range' 15 15) (fun vs W => HfD B g w W [(24, hfC h), (32, sbZ)] ∧ ∃ zz : Int, Arr W w2.heap.size 32 [.int .i64 (1 + r1), .int .i64 zz]) ?_ ?_
    rotate_left
    · rintro vs W5 ⟨hd5, zz, h5⟩
      have HD5 := Lib.hid hd5
      have H55 := Lib.hid h5
      clear hd5 h5
      simp only [putAll, List.range', Act.put, List.setIfInBounds_toArray, List.set_cons_zero, List.set_cons_succ]
      obtain ⟨p0, p1⟩ := sb_cells H55.out
      obtain ⟨s0, s1⟩ := sb_cells (b := w.heap.size + 1) (HD5.out.bx 1 (show 1 < 2 by decide))
      have s2 : W5.frozen? ⟨w.heap.size + 1, 0, none⟩ = false := (show Arr W5 (w.heap.size + 1) _ _ from HD5.out.bx 1 (show 1 < 2 by decide)).free 0
      have s3 : W5.frozen? ⟨w.heap.size + 1, 1, none⟩ = false := (show Arr W5 (w.heap.size + 1) _ _ from HD5.out.bx 1 (show 1 < 2 by decide)).free 1
      go_wp2
      have HE := (HD5.out.put 1 (show 1 < 2 by decide) 0 (.int .i64 (1 + r1))).put 1 (show 1 < 2 by decide) 1 (.int .i64 zz)
      obtain ⟨t0, t1⟩ := sb_cells (b := w.heap.size + 1) (HE.bx 1 (show 1 < 2 by decide))
      exact bodyPost_ret (v := sbL ⟨1 + r1, zz⟩) (by simp [results, Try.results40, go_sem, t0, t1]) rfl ⟨⟨_, rfl⟩, HE.src, HE.gr⟩
    have hd0 := HD3.out.on (Below.refl _ w3).drew
    have h50 : Arr w3.drew w2.heap.size 32 [.int .i64 (1 + r1), .int .i64 (1 + r2)] := H53.out
    refine wp_region_held_drew (S := fun W => Arr W w.heap.size 24 (hfC h)) (by kernel_rfl) (hd0.bx 0 (show 0 < 2 by decide)) (fun hHeld => ?_)
    generalize w3.drew = Wd at hHeld hd0 h50 ⊢
    refine takeQ (i := 0) (k := 15) (v := .pointer (some ⟨w.heap.size, 1, none⟩)) rfl (by rfl) (by kernel_rfl) (by kernel_rfl) (by kernel_rfl) (fun _ _ _ h => h) (by rfl) ?_ hHeld ?_
    · intro w1 hSw; go_simp
    (try simp only [Act.put, List.setIfInBounds_toArray, List.set_cons_zero, List.set_cons_succ])
    refine takeQ (i := 1) (k := 16) (v := .int .i64 h.o) rfl (by rfl) (by kernel_rfl) (by kernel_rfl) (by kernel_rfl) (fun _ _ _ h => h) (by rfl) ?_ hHeld ?_
    · intro w1 hSw; obtain ⟨⟨m0, m1, m2, m3, m4⟩, _⟩ := hf_cells (b := w.heap.size) (h := h) hSw; go_simp
    (try simp only [Act.put, List.setIfInBounds_toArray, List.set_cons_zero, List.set_cons_succ])
    refine takeQ (i := 2) (k := 17) (v := .pointer (some ⟨w.heap.size, 2, none⟩)) rfl (by rfl) (by kernel_rfl) (by kernel_rfl) (by kernel_rfl) (fun _ _ _ h => h) (by rfl) ?_ hHeld ?_
    · intro w1 hSw; go_simp
    (try simp only [Act.put, List.setIfInBounds_toArray, List.set_cons_zero, List.set_cons_succ])
    refine takeQ (i := 3) (k := 18) (v := .int .i64 h.t) rfl (by rfl) (by kernel_rfl) (by kernel_rfl) (by kernel_rfl) (fun _ _ _ h => h) (by rfl) ?_ hHeld ?_
    · intro w1 hSw; obtain ⟨⟨m0, m1, m2, m3, m4⟩, _⟩ := hf_cells (b := w.heap.size) (h := h) hSw; go_simp
    (try simp only [Act.put, List.setIfInBounds_toArray, List.set_cons_zero, List.set_cons_succ])
    refine takeQ (i := 4) (k := 19) (v := .pointer (some ⟨w.heap.size, 3, none⟩)) rfl (by rfl) (by kernel_rfl) (by kernel_rfl) (by kernel_rfl) (fun _ _ _ h => h) (by rfl) ?_ hHeld ?_
    · intro w1 hSw; go_simp
    (try simp only [Act.put, List.setIfInBounds_toArray, List.set_cons_zero, List.set_cons_succ])
    refine takeQ (i := 5) (k := 20) (v := .int .i64 h.i) rfl (by rfl) (by kernel_rfl) (by kernel_rfl) (by kernel_rfl) (fun _ _ _ h => h) (by rfl) ?_ hHeld ?_
    · intro w1 hSw; obtain ⟨⟨m0, m1, m2, m3, m4⟩, _⟩ := hf_cells (b := w.heap.size) (h := h) hSw; go_simp
    (try simp only [Act.put, List.setIfInBounds_toArray, List.set_cons_zero, List.set_cons_succ])
    refine takeQ (i := 6) (k := 21) (v := .pointer (some ⟨w.heap.size, 4, none⟩)) rfl (by rfl) (by kernel_rfl) (by kernel_rfl) (by kernel_rfl) (fun _ _ _ h => h) (by rfl) ?_ hHeld ?_
    · intro w1 hSw; go_simp
    (try simp only [Act.put, List.setIfInBounds_toArray, List.set_cons_zero, List.set_cons_succ])
    refine takeQ (i := 7) (k := 22) (v := .int .i64 h.f) rfl (by rfl) (by kernel_rfl) (by kernel_rfl) (by kernel_rfl) (fun _ _ _ h => h) (by rfl) ?_ hHeld ?_
    · intro w1 hSw; obtain ⟨⟨m0, m1, m2, m3, m4⟩, _⟩ := hf_cells (b := w.heap.size) (h := h) hSw; go_simp
    (try simp only [Act.put, List.setIfInBounds_toArray, List.set_cons_zero, List.set_cons_succ])
    refine takeQ (i := 9) (k := 24) (v := .pointer (some ⟨g, 0, none⟩)) rfl (by rfl) (by kernel_rfl) (by kernel_rfl) (by kernel_rfl) (fun _ _ _ h => h) (by rfl) ?_ hHeld ?_
    · intro w1 hSw; go_simp
    (try simp only [Act.put, List.setIfInBounds_toArray, List.set_cons_zero, List.set_cons_succ])
    refine wpAnyH_ready (rs := [8, 10]) (by kernel_rfl) (by simp) ?_
    refine AllReadyH.cons rfl (fun K hK => ?_) (AllReadyH.cons rfl (fun K hK => ?_) AllReadyH.nil)
    · rw [if_pos (by rfl)]
      go_simp
      have hs := Arr.fresh Wd 2 [.int .i64 h.o, .int .i64 h.t, .int .i64 h.i, .int .i64 h.f]
      have hWd := hd0.gr.size
      replace hd0 := hd0.on ((Below.refl _ Wd).alloc (Nat.le_refl _) (.cells #[.int .i64 h.o, .int .i64 h.t, .int .i64 h.i, .int .i64 h.f] 2))
      replace h50 := arr_belowH2 h50 ((Below.refl _ Wd).alloc (Nat.le_refl _) (.cells #[.int .i64 h.o, .int .i64 h.t, .int .i64 h.i, .int .i64 h.f] 2))
      refine hK.out _ _ (hd0.bx 0 (show 0 < 2 by decide)) (fun hHeld => ?_)
      clear hK K
      (try simp only [Act.put, List.setIfInBounds_toArray, List.set_cons_zero, List.set_cons_succ])
      refine wpAnyH_ready (rs := [10]) (by kernel_rfl) (by simp) ?_
      refine AllReadyH.cons rfl (fun K hK => ?_) AllReadyH.nil
      rw [if_pos (by rfl)]
      go_simp
      go_fit (src_n B g 4 _ (by omega) hd0.src)
      rintro e W4 ⟨_, rfl, ⟨r4, rfl, ha4, hb4⟩, hS4, hg4⟩
      replace hd0 := hd0.draw hS4 hg4
      replace h50 := arr_src h50 hg4 (by omega)
      replace hs := arr_src hs hg4 (by have := hd0.lt; omega)
      refine hK.out _ _ (hd0.bx 0 (show 0 < 2 by decide)) (fun hHeld => ?_)
      clear hK K
      (try simp only [Act.put, List.setIfInBounds_toArray, List.set_cons_zero, List.set_cons_succ])
      obtain ⟨R4, rfl⟩ : ∃ R : Nat, r4 = R := ⟨r4.toNat, by omega⟩
      have hR4 : R4 < 4 := by omega
      obtain ⟨z, hcz⟩ := four_at hs hR4
      have hR5 : (R4 : Int) < 4 := by omega
      refine wpAnyH_ready (rs := [11]) (by kernel_rfl) (by simp) ?_
      refine AllReadyH.cons rfl (fun K hK => ?_) AllReadyH.nil
      rw [if_pos (by rfl)]
      go_simp
      refine hK.out _ _ (hHeld) (fun hHeld => ?_)
      clear hK K
      (try simp only [Act.put, List.setIfInBounds_toArray, List.set_cons_zero, List.set_cons_succ])
      refine wpAnyH_ready (rs := [12]) (by kernel_rfl) (by simp) ?_
      refine AllReadyH.cons rfl (fun K hK => ?_) AllReadyH.nil
      rw [if_pos (by rfl)]
      go_simp
      refine hK.out _ _ (hHeld) (fun hHeld => ?_)
      clear hK K
      (try simp only [Act.put, List.setIfInBounds_toArray, List.set_cons_zero, List.set_cons_succ])
      refine wpAnyH_ready (rs := [13]) (by kernel_rfl) (by simp) ?_
      refine AllReadyH.cons rfl (fun K hK => ?_) AllReadyH.nil
      rw [if_pos (by rfl)]
      go_simp
      go_fit (max_any 1 z _)
      rintro e wx ⟨⟨zz, rfl⟩, rfl⟩
      refine hK.out _ _ (hHeld) (fun hHeld => ?_)
      clear hK K
      (try simp only [Act.put, List.setIfInBounds_toArray, List.set_cons_zero, List.set_cons_succ])
      refine wpAnyH_ready (rs := [14]) (by kernel_rfl) (by simp) ?_
      refine AllReadyH.cons rfl (fun K hK => ?_) AllReadyH.nil
      rw [if_pos (by rfl)]
      go_simp
      refine hK.out _ _ (hHeld) (fun hHeld => ?_)
      clear hK K
      (try simp only [Act.put, List.setIfInBounds_toArray, List.set_cons_zero, List.set_cons_succ])
      have q5 := h50.cell 1
      have f5 := h50.free 1
      refine wpAnyH_ready (rs := [15]) (by kernel_rfl) (by simp) ?_
      refine AllReadyH.cons rfl (fun K hK => ?_) AllReadyH.nil
      rw [if_pos (by rfl)]
      go_simp
      have hF := h50.put 1 (.int .i64 zz)
      have hFd := hd0.far (b := w2.heap.size) (i := 1) (by show w.heap.size + 2 ≤ w2.heap.size; omega) (.int .i64 zz)
      refine hK.out _ _ (hFd.bx 0 (show 0 < 2 by decide)) (fun hHeld => ?_)
      clear hK K
      (try simp only [Act.put, List.setIfInBounds_toArray, List.set_cons_zero, List.set_cons_succ])
      refine wpAnyH_done (by kernel_rfl) ?_ _
      exact ⟨⟨hFd, zz, hF⟩, by simp only [putAll, List.range', Act.put, List.setIfInBounds_toArray, List.set_cons_zero, List.set_cons_succ]; rfl⟩
    · rw [if_pos (by rfl)]
      go_simp
      go_fit (src_n B g 4 _ (by omega) hd0.src)
      rintro e W4 ⟨_, rfl, ⟨r4, rfl, ha4, hb4⟩, hS4, hg4⟩
      replace hd0 := hd0.draw hS4 hg4
      replace h50 := arr_src h50 hg4 (by omega)
      refine hK.out _ _ (hd0.bx 0 (show 0 < 2 by decide)) (fun hHeld => ?_)
      clear hK K
      (try simp only [Act.put, List.setIfInBounds_toArray, List.set_cons_zero, List.set_cons_succ])
      refine wpAnyH_ready (rs := [8]) (by kernel_rfl) (by simp) ?_
      refine AllReadyH.cons rfl (fun K hK => ?_) AllReadyH.nil
      rw [if_pos (by rfl)]
      go_simp
      have hs := Arr.fresh W4 2 [.int .i64 h.o, .int .i64 h.t, .int .i64 h.i, .int .i64 h.f]
      replace hd0 := hd0.on ((Below.refl _ W4).alloc (Nat.le_refl _) (.cells #[.int .i64 h.o, .int .i64 h.t, .int .i64 h.i, .int .i64 h.f] 2))
      replace h50 := arr_belowH2 h50 ((Below.refl _ W4).alloc (Nat.le_refl _) (.cells #[.int .i64 h.o, .int .i64 h.t, .int .i64 h.i, .int .i64 h.f] 2))
      refine hK.out _ _ (hd0.bx 0 (show 0 < 2 by decide)) (fun hHeld => ?_)
      clear hK K
      (try simp only [Act.put, List.setIfInBounds_toArray, List.set_cons_zero, List.set_cons_succ])
      obtain ⟨R4, rfl⟩ : ∃ R : Nat, r4 = R := ⟨r4.toNat, by omega⟩
      have hR4 : R4 < 4 := by omega
      obtain ⟨z, hcz⟩ := four_at hs hR4
      have hR5 : (R4 : Int) < 4 := by omega
      refine wpAnyH_ready (rs := [11]) (by kernel_rfl) (by simp) ?_
      refine AllReadyH.cons rfl (fun K hK => ?_) AllReadyH.nil
      rw [if_pos (by rfl)]
      go_simp
      refine hK.out _ _ (hHeld) (fun hHeld => ?_)
      clear hK K
      (try simp only [Act.put, List.setIfInBounds_toArray, List.set_cons_zero, List.set_cons_succ])
      refine wpAnyH_ready (rs := [12]) (by kernel_rfl) (by simp) ?_
      refine AllReadyH.cons rfl (fun K hK => ?_) AllReadyH.nil
      rw [if_pos (by rfl)]
      go_simp
      refine hK.out _ _ (hHeld) (fun hHeld => ?_)
      clear hK K
      (try simp only [Act.put, List.setIfInBounds_toArray, List.set_cons_zero, List.set_cons_succ])
      refine wpAnyH_ready (rs := [13]) (by kernel_rfl) (by simp) ?_
      refine AllReadyH.cons rfl (fun K hK => ?_) AllReadyH.nil
      rw [if_pos (by rfl)]
      go_simp
      go_fit (max_any 1 z _)
      rintro e wx ⟨⟨zz, rfl⟩, rfl⟩
      refine hK.out _ _ (hHeld) (fun hHeld => ?_)
      clear hK K
      (try simp only [Act.put, List.setIfInBounds_toArray, List.set_cons_zero, List.set_cons_succ])
      refine wpAnyH_ready (rs := [14]) (by kernel_rfl) (by simp) ?_
      refine AllReadyH.cons rfl (fun K hK => ?_) AllReadyH.nil
      rw [if_pos (by rfl)]
      go_simp
      refine hK.out _ _ (hHeld) (fun hHeld => ?_)
      clear hK K
      (try simp only [Act.put, List.setIfInBounds_toArray, List.set_cons_zero, List.set_cons_succ])
      have q5 := h50.cell 1
      have f5 := h50.free 1
      refine wpAnyH_ready (rs := [15]) (by kernel_rfl) (by simp) ?_
      refine AllReadyH.cons rfl (fun K hK => ?_) AllReadyH.nil
      rw [if_pos (by rfl)]
      go_simp
      have hF := h50.put 1 (.int .i64 zz)
      have hFd := hd0.far (b := w2.heap.size) (i := 1) (by show w.heap.size + 2 ≤ w2.heap.size; omega) (.int .i64 zz)
      refine hK.out _ _ (hFd.bx 0 (show 0 < 2 by decide)) (fun hHeld => ?_)
      clear hK K
      (try simp only [Act.put, List.setIfInBounds_toArray, List.set_cons_zero, List.set_cons_succ])
      refine wpAnyH_done (by kernel_rfl) ?_ _
      exact ⟨⟨hFd, zz, hF⟩, by simp only [putAll, List.range', Act.put, List.setIfInBounds_toArray, List.set_cons_zero, List.set_cons_succ]; rfl⟩
end Go.Proofs.Ytgfpcmfcnphalaa
