/- What spec.Unbind answers. -/
import Derived.Test.YtkdljhmenejckaaSeWithS
import Derived.Test.YtkdljhmenejckaaHandQ
namespace Go.Proofs.Ytkdljhmenejckaa
set_option linter.unusedSimpArgs false
set_option linter.unusedVariables false
open Go.RowKit Go.Joins

theorem flat_len9 (xs : List SeL) : (xs.flatMap seC).length = xs.length * 4 := by
  induction xs with
  | nil => rfl
  | cons x xs ih => rw [List.flatMap_cons, List.length_append, seC_len, ih, List.length_cons]; omega
theorem flat_at9 : ∀ (xs : List SeL) (i j : Nat) (hi : i < xs.length), j < 4 → (xs.flatMap seC)[i * 4 + j]? = (seC xs[i])[j]?
  | x :: xs, 0, j, hi, hj => by
    rw [List.flatMap_cons, Nat.zero_mul, Nat.zero_add, List.getElem?_append_left (by rw [seC_len]; exact hj)]
    rfl
  | x :: xs, i + 1, j, hi, hj => by
    rw [List.flatMap_cons, List.getElem?_append_right (by rw [seC_len]; omega), seC_len, show (i + 1) * 4 + j - 4 = i * 4 + j by omega]
    exact flat_at9 xs i j (by simpa using hi) hj
/-- append(v, part...): the part's elements lie at an address. -/
theorem wp_app_sub9 {o : Oper} {a : Act} {w : World} {K : Act → World → Prop} {Q : Exit → Act → World → Prop} (s x : Operand)
    (ho : o.op = .call { callee := .builtin .append, args := #[s, x], argTypes := #[23, 23] })
    (B : Nat) (v : Value) (ys : List SeL) (hs : a.eval s = v) (hown : OwnC seC w B 42 4 v ys) (g off m c : Nat) (zs : List SeL) (hx : a.eval x = .slice (some ⟨g, off, none⟩) m c) (hm : zs.length = m)
    (hcells : ∀ i (h : i < zs.length) j, j < 4 → w.cell? ⟨g, off + (i * 4 + j), none⟩ = (seC zs[i])[j]?)
    (hlen : ys.length + zs.length ≤ 2000000) (hB : B ≤ w.heap.size) (h : ∀ v' w', OwnC seC w' B 42 4 v' (ys ++ zs) → w.grownBy w' v.ownBlock → K (a.put o.dst v') w') : o.wp Try.prog a w K Q := by
  obtain ⟨i0, hi, hz0, hz1, hz2⟩ := info_parts info_sec
  subst hm
  refine wp_append_own w s x 23 ho B 42 i0 _ 4 48 Try.underlying23 hi hz0 hz1 hz2 rfl (by decide) v ys.length (ys.flatMap seC) hs hown ⟨g, off, none⟩ zs.length c (zs.flatMap seC) hx (flat_len9 zs) (fun j u hj => ?_) (one_all9 zs) (by unfold maxLen; omega) (by omega) hB (fun v' w' h1 h2 _ => h v' w' ?_ h2)
  · have hlt : j < zs.length * 4 := by
      have := (List.getElem?_eq_some_iff.1 hj).1
      rwa [flat_len9] at this
    have h4 := hcells (j / 4) (by omega) (j % 4) (by omega)
    have h5 := flat_at9 zs (j / 4) (j % 4) (by omega) (by omega)
    rw [show j / 4 * 4 + j % 4 = j by omega] at h4 h5
    rw [← h5, hj] at h4
    rw [show (⟨g, off, none⟩ : Addr).add j = ⟨g, off + j, none⟩ by unfold Addr.add; split <;> simp_all]
    exact h4
  · show w'.ownsRow B _ 4 v' (ys ++ zs).length ((ys ++ zs).flatMap seC)
    rw [List.length_append, List.flatMap_append]
    exact h1
theorem unb_size {xs : List SeL} {r : ByteArray} (h : 400 < xs.length ∨ 20000 < r.size) : unbindR xs r = illS 2 := by unfold unbindR; exact if_pos h
theorem unb_form {xs : List SeL} {r : ByteArray} (h : ¬ (400 < xs.length ∨ 20000 < r.size)) (h2 : okB xs = false) : unbindR xs r = illS 1 := by unfold unbindR; rw [if_neg h, if_pos h2]
theorem unb_none {xs : List SeL} {r : ByteArray} (h : ¬ (400 < xs.length ∨ 20000 < r.size)) (h2 : okB xs = true) (h3 : hereB r xs = false) : unbindR xs r = illS 6 := by unfold unbindR; rw [if_neg h, if_neg (by rw [h2]; decide), if_pos h3]
theorem unb_ok {xs : List SeL} {r : ByteArray} (h : ¬ (400 < xs.length ∨ 20000 < r.size)) (h2 : okB xs = true) (h3 : hereB r xs = true) : unbindR xs r = ⟨xs.take (posS r xs) ++ xs.drop (posS r xs + 1), 0⟩ := by unfold unbindR; rw [if_neg h, if_neg (by rw [h2]; decide), if_neg (by rw [h3]; decide)]
set_option maxRecDepth 100000 in
set_option maxHeartbeats 4000000 in
theorem spec_unbind (xs : List SeL) (r : ByteArray) (p : Option Addr) (c B0 : Nat) (w : World) (hn : xs.length ≤ 1048576) (hr : r.size ≤ 1048576) (hw : ∀ x ∈ xs, x.r.size ≤ 1048576 ∧ x.s.size ≤ 1048576) (hO : OwnC seC w B0 42 4 (.slice p xs.length c) xs) :
    Calls Try.prog 18 #[.slice p xs.length c, .string r] w fun e w' => SoIs w.heap.size (unbindR xs r) e w' ∧ Below w.heap.size w w' := by
  have HA0 : Hid (Arr (w.alloc (.cells #[.slice none 0 0, .int .i64 0] 27)) w.heap.size 27 [.slice none 0 0, .int .i64 0]) := Lib.hid (Arr.fresh w _ [.slice none 0 0, .int .i64 0])
  have HB0 : Hid (Below w.heap.size w (w.alloc (.cells #[.slice none 0 0, .int .i64 0] 27))) := Lib.hid ((Below.refl _ _).alloc (Nat.le_refl _) _)
  have HO := Lib.hid (fun W (h : Below w.heap.size w W) => hO.on h)
  have i0 := fun code W => spec_ill9 code W
  have i1 := fun W h => spec_seright xs p c W hn (fun x hx => by have := (hw x hx).1; unfold maxLen; omega) h
  have i2 := fun W (hk : okB xs = true) h => spec_at9 xs r p c W hn (okB_iff.1 hk).2.1 h
  obtain ⟨n, hxn⟩ : ∃ n, xs.length = n := ⟨_, rfl⟩
  have HN := Lib.hid hxn
  by_cases h1 : 400 < xs.length ∨ 20000 < r.size
  · rw [unb_size h1]
    rw [hxn] at h1 hn ⊢
    clear hO hw i1 i2 hxn
    by_cases h2 : 400 < n
    · clear h1
      go_enter Try.func18, Try.ntmps18
      go_wp2_with (first
        | (go_at_call 64; go_fit (i0 _ _); rintro e0 w9 ⟨rfl, hb⟩; have HA9 := Lib.hid (arr9_on HA0.out hb); have HB9 := Lib.hid (HB0.out.trans (hb.mono HB0.out.size)); clear hb; obtain ⟨⟨c0, c1⟩, k0, k1⟩ := arr9_two HA9.out))
      have hE : Arr _ w.heap.size 27 [.slice none 0 0, .int .i64 2] := ((HA9.out.put 0 (.slice none 0 0)).put 1 (.int .i64 2))
      exact bodyPost_ret (v := .agg #[.slice none 0 0, .int .i64 2]) (results_cell_row (P := Try.prog) Try.results18 _ _ w.heap.size 27 _ (0, 0) _ rfl hE Try.underlying27 rfl (by kernel_rfl)) rfl
        ⟨so_ill _ _ _, (HB9.out.setCell (p := ⟨w.heap.size, 0, none⟩) (Nat.le_refl _) _).setCell (p := ⟨w.heap.size, 1, none⟩) (Nat.le_refl _) _⟩
    · have h3 : 20000 < r.size := by omega
      clear h1
      go_enter Try.func18, Try.ntmps18
      go_wp2_with (first
        | (go_at_call 64; go_fit (i0 _ _); rintro e0 w9 ⟨rfl, hb⟩; have HA9 := Lib.hid (arr9_on HA0.out hb); have HB9 := Lib.hid (HB0.out.trans (hb.mono HB0.out.size)); clear hb; obtain ⟨⟨c0, c1⟩, k0, k1⟩ := arr9_two HA9.out))
      have hE : Arr _ w.heap.size 27 [.slice none 0 0, .int .i64 2] := ((HA9.out.put 0 (.slice none 0 0)).put 1 (.int .i64 2))
      exact bodyPost_ret (v := .agg #[.slice none 0 0, .int .i64 2]) (results_cell_row (P := Try.prog) Try.results18 _ _ w.heap.size 27 _ (0, 0) _ rfl hE Try.underlying27 rfl (by kernel_rfl)) rfl
        ⟨so_ill _ _ _, (HB9.out.setCell (p := ⟨w.heap.size, 0, none⟩) (Nat.le_refl _) _).setCell (p := ⟨w.heap.size, 1, none⟩) (Nat.le_refl _) _⟩
  have g1 : ¬ 400 < n := by omega
  have g2 : ¬ 20000 < r.size := by omega
  by_cases h2 : okB xs = true
  · replace i2 := fun W h => i2 W h2 h
    rw [h2] at i1
    unfold whereI at i2
    by_cases h3 : hereB r xs = true
    · rw [if_pos h3] at i2
      rw [unb_ok h1 h2 h3]
      have hlt := here_lt h3
      have h5 := (okB_iff.1 h2).1
      obtain ⟨P, hP⟩ : ∃ P, posS r xs = P := ⟨_, rfl⟩
      rw [hP] at i2 hlt ⊢
      have HLT := Lib.hid hlt
      rw [hxn] at hn i1 i2 HO hlt h5 ⊢
      obtain ⟨g, cap, e⟩ := Joins.ownsRow_form hO (by rw [hxn]; omega)
      rw [hxn] at e
      injection e with e1 _ e3
      subst e1 e3
      have hcap : n ≤ c := by
        rcases hO.2 with ⟨h0, _⟩ | ⟨g', cap', cur, q1, _, _, q4, _⟩
        · cases h0
        · injection q1 with _ _ q3
          subst q3
          rw [hxn] at q4
          exact q4
      have q1 : ¬ ((P : Int) < 0) := by omega
      have q2 : (P : Int) ≤ (n : Int) := by omega
      have q3 : (P : Int) + 1 ≤ (n : Int) := by omega
      have q4 : (0 : Int) ≤ (P : Int) := by omega
      have q5 : (0 : Int) ≤ (P : Int) + 1 := by omega
      have q6 : (n : Int) ≤ (c : Int) := by omega
      have q7 : (P : Int) ≤ (c : Int) := by omega
      have hw1 : IntKind.i64.wrap ((P : Int) + 1) = (P : Int) + 1 := IntWalk.i64_in _ (by omega)
      clear hO hw hxn h1 h2 h3 hP
      go_enter Try.func18, Try.ntmps18
      go_wp2_with (first
        | (go_at_call 28; go_fit (i1 _ (row_own9 (HO.out _ HB0.out))); rintro e0 w1 ⟨rfl, hb⟩; have HA1 := Lib.hid (arr9_on HA0.out hb); have HB1 := Lib.hid (HB0.out.trans (hb.mono HB0.out.size)); clear hb)
        | (go_at_call 66; go_fit (i2 _ (row_own9 (HO.out _ HB1.out))); rintro e0 w2 ⟨rfl, hb⟩; have HA2 := Lib.hid (arr9_on HA1.out hb); have HB2 := Lib.hid (HB1.out.trans (hb.mono HB1.out.size)); clear hb))
      refine wp_region_held_drew (S := fun _ => True) (by kernel_rfl) trivial (fun hHeld => ?_)
      have HAd := Lib.hid (arr9_on HA2.out (Below.refl _ _).drew)
      have HBd := Lib.hid HB2.out.drew
      generalize w2.drew = Wd at hHeld HAd HBd ⊢
      clear HA1 HA2 HB1 HB2 HA0 HB0
      by_cases hc : c = P + 1
      · have HNP : Hid (n = P + 1) := Lib.hid (by omega)
        have HC := Lib.hid hc
        clear hc
        refine takeQ (i := 1) (k := 26) (v := .slice (some ⟨g, 0, none⟩) n c) rfl (by rfl) (by kernel_rfl) (by kernel_rfl) (by kernel_rfl) (fun _ _ _ h => h) (by rfl) ?_ hHeld ?_
        · intro w1 hSw; go_simp
        (try simp only [Act.put, List.setIfInBounds_toArray, List.set_cons_zero, List.set_cons_succ])
        refine takeQ (i := 2) (k := 27) (v := .int .i64 (P : Int)) rfl (by rfl) (by kernel_rfl) (by kernel_rfl) (by kernel_rfl) (fun _ _ _ h => h) (by rfl) ?_ hHeld ?_
        · intro w1 hSw; go_simp
        (try simp only [Act.put, List.setIfInBounds_toArray, List.set_cons_zero, List.set_cons_succ])
        refine takeQ (i := 3) (k := 28) (v := .slice (some ⟨g, 0, none⟩) P c) rfl (by rfl) (by kernel_rfl) (by kernel_rfl) (by kernel_rfl) (fun _ _ _ h => h) (by rfl) ?_ hHeld ?_
        · intro w1 hSw; go_simp
        (try simp only [Act.put, List.setIfInBounds_toArray, List.set_cons_zero, List.set_cons_succ])
        refine takeQ (i := 5) (k := 30) (v := .slice (some ⟨g, 0, none⟩) n c) rfl (by rfl) (by kernel_rfl) (by kernel_rfl) (by kernel_rfl) (fun _ _ _ h => h) (by rfl) ?_ hHeld ?_
        · intro w1 hSw; go_simp
        (try simp only [Act.put, List.setIfInBounds_toArray, List.set_cons_zero, List.set_cons_succ])
        refine takeQ (i := 6) (k := 31) (v := .int .i64 (P : Int)) rfl (by rfl) (by kernel_rfl) (by kernel_rfl) (by kernel_rfl) (fun _ _ _ h => h) (by rfl) ?_ hHeld ?_
        · intro w1 hSw; go_simp
        (try simp only [Act.put, List.setIfInBounds_toArray, List.set_cons_zero, List.set_cons_succ])
        refine takeQ (i := 7) (k := 32) (v := .int .i64 ((P : Int) + 1)) rfl (by rfl) (by kernel_rfl) (by kernel_rfl) (by kernel_rfl) (fun _ _ _ h => h) (by rfl) ?_ hHeld ?_
        · intro w1 hSw; go_simp; (try (first | exact hw1 | omega))
        (try simp only [Act.put, List.setIfInBounds_toArray, List.set_cons_zero, List.set_cons_succ])
        refine takeQ (i := 8) (k := 33) (v := .slice (some ⟨g, 0, none⟩) 0 0) rfl (by rfl) (by kernel_rfl) (by kernel_rfl) (by kernel_rfl) (fun _ _ _ h => h) (by rfl) ?_ hHeld ?_
        · intro w1 hSw; go_simp; exact ⟨HC.out, by have := HNP.out; omega, by have := HC.out; omega⟩
        (try simp only [Act.put, List.setIfInBounds_toArray, List.set_cons_zero, List.set_cons_succ])
        refine wpAnyH_ready (rs := [0]) (by kernel_rfl) (by simp) ?_
        refine AllReadyH.cons rfl (fun K hK => ?_) AllReadyH.nil
        rw [if_pos (by rfl)]
        go_simp
        have HA3 := Lib.hid (arr9_on HAd.out ((Below.refl _ _).alloc (Nat.le_refl _) (.cells #[] 42)))
        have HB3 := Lib.hid (HBd.out.alloc HBd.out.size (.cells #[] 42))
        have hzd : w.heap.size < Wd.heap.size := arr9_lt HAd.out
        refine hK.out _ _ trivial (fun hHeld => ?_)
        clear hK K
        (try simp only [Act.put, List.setIfInBounds_toArray, List.set_cons_zero, List.set_cons_succ])
        refine wpAnyH_ready (rs := [4]) (by kernel_rfl) (by simp) ?_
        refine AllReadyH.cons rfl (fun K hK => ?_) AllReadyH.nil
        rw [if_pos (by rfl)]
        refine wp_app_sub9 _ _ rfl Wd.heap.size _ [] rfl (empty_row9 Wd) g 0 P c (xs.take P) rfl (by rw [List.length_take, HN.out]; omega) (fun i hi j hj => ?_) (by rw [List.length_take, HN.out]; simp; omega) (by simp) ?_
        · have hi' : i < P := by rw [List.length_take] at hi; omega
          rw [Nat.zero_add, OwnC.cell seC_len (HO.out _ HB3.out) i j (by have := HLT.out; omega) hj, List.getElem_take]
        intro v4 w4 hv4 hg4
        rw [List.nil_append] at hv4
        have HA4 : Hid (Arr w4 w.heap.size 27 [.slice none 0 0, .int .i64 0]) := Lib.hid ((hg4.block _ (by simp; omega) (fun e => by injection e with e; have e' : Wd.heap.size = w.heap.size := e.symm; omega)).trans HA3.out)
        have HB4 : Hid (Below w.heap.size w w4) := Lib.hid (HB3.out.grown hg4 HB3.out.size (fun k hk => by injection hk with hk; have hk' : Wd.heap.size = k := hk; omega))
        have hb4 := own_base hv4
        refine hK.out _ _ trivial (fun hHeld => ?_)
        clear hK K
        (try simp only [Act.put, List.setIfInBounds_toArray, List.set_cons_zero, List.set_cons_succ])
        refine wpAnyH_ready (rs := [9]) (by kernel_rfl) (by simp) ?_
        refine AllReadyH.cons rfl (fun K hK => ?_) AllReadyH.nil
        rw [if_pos (by rfl)]
        refine wp_app_sub9 _ _ rfl Wd.heap.size _ (xs.take P) rfl hv4 g 0 0 0 (xs.drop (P + 1)) rfl (by rw [List.length_drop, HN.out]; have := HNP.out; omega) (fun i hi j hj => absurd hi (by rw [List.length_drop, HN.out]; have := HNP.out; omega)) (by rw [List.length_take, List.length_drop, HN.out]; omega) (by have := hg4.size; simp at this; omega) ?_
        intro v5 w5 hv5 hg5
        have HA5 : Hid (Arr w5 w.heap.size 27 [.slice none 0 0, .int .i64 0]) := Lib.hid ((hg5.block _ (arr9_lt HA4.out) (fun e => by have := hb4 _ e.symm; omega)).trans HA4.out)
        have HB5 : Hid (Below w.heap.size w w5) := Lib.hid (HB4.out.grown hg5 HB4.out.size (fun k hk => by have := hb4 k hk; omega))
        obtain ⟨q5, k5, e5, -⟩ := hv5.row seC_len
        obtain ⟨m5, hm5⟩ : ∃ m, (xs.take P ++ (xs.drop (P + 1))).length = m := ⟨_, rfl⟩
        rw [hm5] at e5
        subst e5
        have HM5 := Lib.hid hm5
        clear hm5
        refine hK.out _ _ trivial (fun hHeld => ?_)
        clear hK K
        (try simp only [Act.put, List.setIfInBounds_toArray, List.set_cons_zero, List.set_cons_succ])
        refine takeQ (i := 10) (k := 35) (v := .agg #[.slice q5 m5 k5, .int .i64 0]) rfl (by rfl) (by kernel_rfl) (by kernel_rfl) (by kernel_rfl) (fun _ _ _ h => h) (by rfl) ?_ hHeld ?_
        · intro w1 hSw; go_simp
        (try simp only [Act.put, List.setIfInBounds_toArray, List.set_cons_zero, List.set_cons_succ])
        obtain ⟨⟨c0, c1⟩, k0, k1⟩ := arr9_two HA5.out
        refine wpAnyH_ready (rs := [11]) (by kernel_rfl) (by simp) ?_
        refine AllReadyH.cons rfl (fun K hK => ?_) AllReadyH.nil
        rw [if_pos (by rfl)]
        go_simp
        refine hK.out _ _ trivial (fun hHeld => ?_)
        clear hK K
        (try simp only [Act.put, List.setIfInBounds_toArray, List.set_cons_zero, List.set_cons_succ])
        refine wpAnyH_done (by kernel_rfl) ?_ _
        go_wp2
        obtain rfl := HM5.out
        obtain ⟨hE, hO2, hBl⟩ := pass9 (W2 := w) (R := ⟨xs.take P ++ (xs.drop (P + 1)), 0⟩) HA5.out HB5.out (Nat.le_refl _) hzd hv5
        exact bodyPost_ret (v := .agg #[.slice q5 (xs.take P ++ (xs.drop (P + 1))).length k5, .int .i64 0]) (results_cell_row (P := Try.prog) Try.results18 _ _ w.heap.size 27 _ (0, 0) _ rfl hE Try.underlying27 rfl (by kernel_rfl)) rfl
          ⟨⟨q5, k5, rfl, hO2⟩, hBl⟩
      · have q8 : ¬ ((c : Int) = (P : Int) + 1) := by omega
        refine takeQ (i := 1) (k := 26) (v := .slice (some ⟨g, 0, none⟩) n c) rfl (by rfl) (by kernel_rfl) (by kernel_rfl) (by kernel_rfl) (fun _ _ _ h => h) (by rfl) ?_ hHeld ?_
        · intro w1 hSw; go_simp
        (try simp only [Act.put, List.setIfInBounds_toArray, List.set_cons_zero, List.set_cons_succ])
        refine takeQ (i := 2) (k := 27) (v := .int .i64 (P : Int)) rfl (by rfl) (by kernel_rfl) (by kernel_rfl) (by kernel_rfl) (fun _ _ _ h => h) (by rfl) ?_ hHeld ?_
        · intro w1 hSw; go_simp
        (try simp only [Act.put, List.setIfInBounds_toArray, List.set_cons_zero, List.set_cons_succ])
        refine takeQ (i := 3) (k := 28) (v := .slice (some ⟨g, 0, none⟩) P c) rfl (by rfl) (by kernel_rfl) (by kernel_rfl) (by kernel_rfl) (fun _ _ _ h => h) (by rfl) ?_ hHeld ?_
        · intro w1 hSw; go_simp
        (try simp only [Act.put, List.setIfInBounds_toArray, List.set_cons_zero, List.set_cons_succ])
        refine takeQ (i := 5) (k := 30) (v := .slice (some ⟨g, 0, none⟩) n c) rfl (by rfl) (by kernel_rfl) (by kernel_rfl) (by kernel_rfl) (fun _ _ _ h => h) (by rfl) ?_ hHeld ?_
        · intro w1 hSw; go_simp
        (try simp only [Act.put, List.setIfInBounds_toArray, List.set_cons_zero, List.set_cons_succ])
        refine takeQ (i := 6) (k := 31) (v := .int .i64 (P : Int)) rfl (by rfl) (by kernel_rfl) (by kernel_rfl) (by kernel_rfl) (fun _ _ _ h => h) (by rfl) ?_ hHeld ?_
        · intro w1 hSw; go_simp
        (try simp only [Act.put, List.setIfInBounds_toArray, List.set_cons_zero, List.set_cons_succ])
        refine takeQ (i := 7) (k := 32) (v := .int .i64 ((P : Int) + 1)) rfl (by rfl) (by kernel_rfl) (by kernel_rfl) (by kernel_rfl) (fun _ _ _ h => h) (by rfl) ?_ hHeld ?_
        · intro w1 hSw; go_simp; (try (first | exact hw1 | omega))
        (try simp only [Act.put, List.setIfInBounds_toArray, List.set_cons_zero, List.set_cons_succ])
        refine takeQ (i := 8) (k := 33) (v := .slice (some ⟨g, (P + 1) * 4, none⟩) (n - (P + 1)) (c - (P + 1))) rfl (by rfl) (by kernel_rfl) (by kernel_rfl) (by kernel_rfl) (fun _ _ _ h => h) (by rfl) ?_ hHeld ?_
        · intro w1 hSw; go_simp; (try simp)
        (try simp only [Act.put, List.setIfInBounds_toArray, List.set_cons_zero, List.set_cons_succ])
        refine wpAnyH_ready (rs := [0]) (by kernel_rfl) (by simp) ?_
        refine AllReadyH.cons rfl (fun K hK => ?_) AllReadyH.nil
        rw [if_pos (by rfl)]
        go_simp
        have HA3 := Lib.hid (arr9_on HAd.out ((Below.refl _ _).alloc (Nat.le_refl _) (.cells #[] 42)))
        have HB3 := Lib.hid (HBd.out.alloc HBd.out.size (.cells #[] 42))
        have hzd : w.heap.size < Wd.heap.size := arr9_lt HAd.out
        refine hK.out _ _ trivial (fun hHeld => ?_)
        clear hK K
        (try simp only [Act.put, List.setIfInBounds_toArray, List.set_cons_zero, List.set_cons_succ])
        refine wpAnyH_ready (rs := [4]) (by kernel_rfl) (by simp) ?_
        refine AllReadyH.cons rfl (fun K hK => ?_) AllReadyH.nil
        rw [if_pos (by rfl)]
        refine wp_app_sub9 _ _ rfl Wd.heap.size _ [] rfl (empty_row9 Wd) g 0 P c (xs.take P) rfl (by rw [List.length_take, HN.out]; omega) (fun i hi j hj => ?_) (by rw [List.length_take, HN.out]; simp; omega) (by simp) ?_
        · have hi' : i < P := by rw [List.length_take] at hi; omega
          rw [Nat.zero_add, OwnC.cell seC_len (HO.out _ HB3.out) i j (by have := HLT.out; omega) hj, List.getElem_take]
        intro v4 w4 hv4 hg4
        rw [List.nil_append] at hv4
        have HA4 : Hid (Arr w4 w.heap.size 27 [.slice none 0 0, .int .i64 0]) := Lib.hid ((hg4.block _ (by simp; omega) (fun e => by injection e with e; have e' : Wd.heap.size = w.heap.size := e.symm; omega)).trans HA3.out)
        have HB4 : Hid (Below w.heap.size w w4) := Lib.hid (HB3.out.grown hg4 HB3.out.size (fun k hk => by injection hk with hk; have hk' : Wd.heap.size = k := hk; omega))
        have hb4 := own_base hv4
        refine hK.out _ _ trivial (fun hHeld => ?_)
        clear hK K
        (try simp only [Act.put, List.setIfInBounds_toArray, List.set_cons_zero, List.set_cons_succ])
        refine wpAnyH_ready (rs := [9]) (by kernel_rfl) (by simp) ?_
        refine AllReadyH.cons rfl (fun K hK => ?_) AllReadyH.nil
        rw [if_pos (by rfl)]
        refine wp_app_sub9 _ _ rfl Wd.heap.size _ (xs.take P) rfl hv4 g ((P + 1) * 4) (n - (P + 1)) (c - (P + 1)) (xs.drop (P + 1)) rfl (by rw [List.length_drop, HN.out]) (fun i hi j hj => ?_) (by rw [List.length_take, List.length_drop, HN.out]; omega) (by have := hg4.size; simp at this; omega) ?_
        · rw [List.length_drop, HN.out] at hi
          rw [show (P + 1) * 4 + (i * 4 + j) = (P + 1 + i) * 4 + j by omega, OwnC.cell seC_len (HO.out _ HB4.out) (P + 1 + i) j (by rw [HN.out]; omega) hj, List.getElem_drop]
        intro v5 w5 hv5 hg5
        have HA5 : Hid (Arr w5 w.heap.size 27 [.slice none 0 0, .int .i64 0]) := Lib.hid ((hg5.block _ (arr9_lt HA4.out) (fun e => by have := hb4 _ e.symm; omega)).trans HA4.out)
        have HB5 : Hid (Below w.heap.size w w5) := Lib.hid (HB4.out.grown hg5 HB4.out.size (fun k hk => by have := hb4 k hk; omega))
        obtain ⟨q5, k5, e5, -⟩ := hv5.row seC_len
        obtain ⟨m5, hm5⟩ : ∃ m, (xs.take P ++ (xs.drop (P + 1))).length = m := ⟨_, rfl⟩
        rw [hm5] at e5
        subst e5
        have HM5 := Lib.hid hm5
        clear hm5
        refine hK.out _ _ trivial (fun hHeld => ?_)
        clear hK K
        (try simp only [Act.put, List.setIfInBounds_toArray, List.set_cons_zero, List.set_cons_succ])
        refine takeQ (i := 10) (k := 35) (v := .agg #[.slice q5 m5 k5, .int .i64 0]) rfl (by rfl) (by kernel_rfl) (by kernel_rfl) (by kernel_rfl) (fun _ _ _ h => h) (by rfl) ?_ hHeld ?_
        · intro w1 hSw; go_simp
        (try simp only [Act.put, List.setIfInBounds_toArray, List.set_cons_zero, List.set_cons_succ])
        obtain ⟨⟨c0, c1⟩, k0, k1⟩ := arr9_two HA5.out
        refine wpAnyH_ready (rs := [11]) (by kernel_rfl) (by simp) ?_
        refine AllReadyH.cons rfl (fun K hK => ?_) AllReadyH.nil
        rw [if_pos (by rfl)]
        go_simp
        refine hK.out _ _ trivial (fun hHeld => ?_)
        clear hK K
        (try simp only [Act.put, List.setIfInBounds_toArray, List.set_cons_zero, List.set_cons_succ])
        refine wpAnyH_done (by kernel_rfl) ?_ _
        go_wp2
        obtain rfl := HM5.out
        obtain ⟨hE, hO2, hBl⟩ := pass9 (W2 := w) (R := ⟨xs.take P ++ (xs.drop (P + 1)), 0⟩) HA5.out HB5.out (Nat.le_refl _) hzd hv5
        exact bodyPost_ret (v := .agg #[.slice q5 (xs.take P ++ (xs.drop (P + 1))).length k5, .int .i64 0]) (results_cell_row (P := Try.prog) Try.results18 _ _ w.heap.size 27 _ (0, 0) _ rfl hE Try.underlying27 rfl (by kernel_rfl)) rfl
          ⟨⟨q5, k5, rfl, hO2⟩, hBl⟩
    · rw [if_neg h3] at i2
      rw [unb_none h1 h2 (by simpa using h3)]
      rw [hxn] at hn i1 i2 HO ⊢
      clear hO hw hxn h1 h2 h3
      go_enter Try.func18, Try.ntmps18
      go_wp2_with (first
        | (go_at_call 28; go_fit (i1 _ (row_own9 (HO.out _ HB0.out))); rintro e0 w1 ⟨rfl, hb⟩; have HA1 := Lib.hid (arr9_on HA0.out hb); have HB1 := Lib.hid (HB0.out.trans (hb.mono HB0.out.size)); clear hb)
        | (go_at_call 66; go_fit (i2 _ (row_own9 (HO.out _ HB1.out))); rintro e0 w2 ⟨rfl, hb⟩; have HA2 := Lib.hid (arr9_on HA1.out hb); have HB2 := Lib.hid (HB1.out.trans (hb.mono HB1.out.size)); clear hb)
        | (go_at_call 64; go_fit (i0 _ _); rintro e0 w9 ⟨rfl, hb⟩; have HA9 := Lib.hid (arr9_on HA2.out hb); have HB9 := Lib.hid (HB2.out.trans (hb.mono HB2.out.size)); clear hb; obtain ⟨⟨c0, c1⟩, k0, k1⟩ := arr9_two HA9.out))
      have hE : Arr _ w.heap.size 27 [.slice none 0 0, .int .i64 6] := ((HA9.out.put 0 (.slice none 0 0)).put 1 (.int .i64 6))
      exact bodyPost_ret (v := .agg #[.slice none 0 0, .int .i64 6]) (results_cell_row (P := Try.prog) Try.results18 _ _ w.heap.size 27 _ (0, 0) _ rfl hE Try.underlying27 rfl (by kernel_rfl)) rfl
        ⟨so_ill _ _ _, (HB9.out.setCell (p := ⟨w.heap.size, 0, none⟩) (Nat.le_refl _) _).setCell (p := ⟨w.heap.size, 1, none⟩) (Nat.le_refl _) _⟩
  · rw [unb_form h1 (by simpa using h2)]
    rw [show okB xs = false by simpa using h2] at i1
    rw [hxn] at hn i1 HO ⊢
    clear hO hw i2 hxn h1 h2
    go_enter Try.func18, Try.ntmps18
    go_wp2_with (first
      | (go_at_call 28; go_fit (i1 _ (row_own9 (HO.out _ HB0.out))); rintro e0 w1 ⟨rfl, hb⟩; have HA1 := Lib.hid (arr9_on HA0.out hb); have HB1 := Lib.hid (HB0.out.trans (hb.mono HB0.out.size)); clear hb)
      | (go_at_call 64; go_fit (i0 _ _); rintro e0 w9 ⟨rfl, hb⟩; have HA9 := Lib.hid (arr9_on HA1.out hb); have HB9 := Lib.hid (HB1.out.trans (hb.mono HB1.out.size)); clear hb; obtain ⟨⟨c0, c1⟩, k0, k1⟩ := arr9_two HA9.out))
    have hE : Arr _ w.heap.size 27 [.slice none 0 0, .int .i64 1] := ((HA9.out.put 0 (.slice none 0 0)).put 1 (.int .i64 1))
    exact bodyPost_ret (v := .agg #[.slice none 0 0, .int .i64 1]) (results_cell_row (P := Try.prog) Try.results18 _ _ w.heap.size 27 _ (0, 0) _ rfl hE Try.underlying27 rfl (by kernel_rfl)) rfl
      ⟨so_ill _ _ _, (HB9.out.setCell (p := ⟨w.heap.size, 0, none⟩) (Nat.le_refl _) _).setCell (p := ⟨w.heap.size, 1, none⟩) (Nat.le_refl _) _⟩
end Go.Proofs.Ytkdljhmenejckaa
