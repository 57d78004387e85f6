/- What spec.Bind answers. -/
import Derived.Test.YtkdljhmenejckaaSeUnbS
namespace Go.Proofs.Ytkdljhmenejckaa
set_option linter.unusedSimpArgs false
set_option linter.unusedVariables false
open Go.RowKit Go.Joins

theorem bnd_size {xs : List SeL} {r : ByteArray} (h : 400 < xs.length ∨ 20000 < r.size) : bindR xs r = illS 2 := by unfold bindR; exact if_pos h
theorem bnd_form {xs : List SeL} {r : ByteArray} (h : ¬ (400 < xs.length ∨ 20000 < r.size)) (h2 : okB xs = false ∨ resB r = false) : bindR xs r = illS 1 := by unfold bindR; rw [if_neg h, if_pos h2]
theorem bnd_there {xs : List SeL} {r : ByteArray} (h : ¬ (400 < xs.length ∨ 20000 < r.size)) (h2 : ¬ (okB xs = false ∨ resB r = false)) (h3 : hereB r xs = true) : bindR xs r = illS 7 := by unfold bindR; rw [if_neg h, if_neg h2, if_pos h3]
theorem bnd_full {xs : List SeL} {r : ByteArray} (h : ¬ (400 < xs.length ∨ 20000 < r.size)) (h2 : ¬ (okB xs = false ∨ resB r = false)) (h3 : ¬ hereB r xs = true) (h4 : xs.length = 5) : bindR xs r = illS 9 := by unfold bindR; rw [if_neg h, if_neg h2, if_neg h3, if_pos h4]
theorem bnd_ok {xs : List SeL} {r : ByteArray} (h : ¬ (400 < xs.length ∨ 20000 < r.size)) (h2 : ¬ (okB xs = false ∨ resB r = false)) (h3 : ¬ hereB r xs = true) (h4 : ¬ xs.length = 5) : bindR xs r = ⟨(xs.take (posS r xs) ++ [newS r]) ++ xs.drop (posS r xs), 0⟩ := by
  unfold bindR
  rw [if_neg h, if_neg h2, if_neg h3, if_neg h4, List.append_assoc]
  rfl
/-- append(v, session). -/
theorem wp_app_one9 {o : Oper} {a : Act} {w : World} {K : Act → World → Prop} {Q : Exit → Act → World → Prop} (s x : Operand)
    (ho : o.op = .call { callee := .builtin .append, args := #[s, x], argTypes := #[23, 23] })
    (B : Nat) (v : Value) (ys : List SeL) (hs : a.eval s = v) (hown : OwnC seC w B 42 4 v ys) (g : Nat) (z : SeL) (hx : a.eval x = .slice (some ⟨g, 0, none⟩) 1 1) (hA : Arr w g 42 (seC z))
    (hlen : ys.length ≤ 1000000) (hB : B ≤ w.heap.size) (h : ∀ v' w', OwnC seC w' B 42 4 v' (ys ++ [z]) → w.grownBy w' v.ownBlock → K (a.put o.dst v') w') : o.wp Try.prog a w K Q :=
  wp_app_sub9 s x ho B v ys hs hown g 0 1 1 [z] hx rfl (fun i hi j hj => by
    have h0 : i = 0 := by simp at hi; omega
    subst h0
    have e := hA.cell j
    rw [Nat.zero_mul, Nat.zero_add, Nat.zero_add]
    match j, hj with
    | 0, _ => exact hA.cell 0
    | 1, _ => exact hA.cell 1
    | 2, _ => exact hA.cell 2
    | 3, _ => exact hA.cell 3) (by simp; omega) hB h
set_option maxRecDepth 100000 in
set_option maxHeartbeats 8000000 in
theorem spec_bind (xs : List SeL) (r : ByteArray) (p : Option Addr) (c B0 : Nat) (w : World) (hn : xs.length ≤ 1048576) (hr : r.size ≤ 1048576) (hw : ∀ x ∈ xs, x.r.size ≤ 1048576 ∧ x.s.size ≤ 1048576) (hO : OwnC seC w B0 42 4 (.slice p xs.length c) xs) :
    Calls Try.prog 16 #[.slice p xs.length c, .string r] w fun e w' => SoIs w.heap.size (bindR xs r) e w' ∧ Below w.heap.size w w' := by
  have HA0 : Hid (Arr (w.alloc (.cells #[.slice none 0 0, .int .i64 0] 27)) w.heap.size 27 [.slice none 0 0, .int .i64 0]) := Lib.hid (Arr.fresh w _ [.slice none 0 0, .int .i64 0])
  have HB0 : Hid (Below w.heap.size w (w.alloc (.cells #[.slice none 0 0, .int .i64 0] 27))) := Lib.hid ((Below.refl _ _).alloc (Nat.le_refl _) _)
  have HO := Lib.hid (fun W (h : Below w.heap.size w W) => hO.on h)
  have i0 := fun code W => spec_ill9 code W
  have i1 := fun W h => spec_seright xs p c W hn (fun x hx => by have := (hw x hx).1; unfold maxLen; omega) h
  have i2 := fun W (hk : okB xs = true) h => spec_at9 xs r p c W hn (okB_iff.1 hk).2.1 h
  have i3 := fun W => spec_res9 r W (by unfold maxLen; omega)
  unfold SaysB at i3
  obtain ⟨n, hxn⟩ : ∃ n, xs.length = n := ⟨_, rfl⟩
  have HN := Lib.hid hxn
  by_cases h1 : 400 < xs.length ∨ 20000 < r.size
  · rw [bnd_size h1]
    rw [hxn] at h1 hn ⊢
    clear hO hw i1 i2 hxn
    by_cases h2 : 400 < n
    · clear h1
      go_enter Try.func16, Try.ntmps16
      go_wp2_with (first
        | (go_at_call 64; go_fit (i0 _ _); rintro e0 w9 ⟨rfl, hb⟩; have HA9 := Lib.hid (arr9_on HA0.out hb); have HB9 := Lib.hid (HB0.out.trans (hb.mono HB0.out.size)); clear hb; obtain ⟨⟨c0, c1⟩, k0, k1⟩ := arr9_two HA9.out))
      have hE : Arr _ w.heap.size 27 [.slice none 0 0, .int .i64 2] := ((HA9.out.put 0 (.slice none 0 0)).put 1 (.int .i64 2))
      exact bodyPost_ret (v := .agg #[.slice none 0 0, .int .i64 2]) (results_cell_row (P := Try.prog) Try.results16 _ _ w.heap.size 27 _ (0, 0) _ rfl hE Try.underlying27 rfl (by kernel_rfl)) rfl
        ⟨so_ill _ _ _, (HB9.out.setCell (p := ⟨w.heap.size, 0, none⟩) (Nat.le_refl _) _).setCell (p := ⟨w.heap.size, 1, none⟩) (Nat.le_refl _) _⟩
    · have h3 : 20000 < r.size := by omega
      clear h1
      go_enter Try.func16, Try.ntmps16
      go_wp2_with (first
        | (go_at_call 64; go_fit (i0 _ _); rintro e0 w9 ⟨rfl, hb⟩; have HA9 := Lib.hid (arr9_on HA0.out hb); have HB9 := Lib.hid (HB0.out.trans (hb.mono HB0.out.size)); clear hb; obtain ⟨⟨c0, c1⟩, k0, k1⟩ := arr9_two HA9.out))
      have hE : Arr _ w.heap.size 27 [.slice none 0 0, .int .i64 2] := ((HA9.out.put 0 (.slice none 0 0)).put 1 (.int .i64 2))
      exact bodyPost_ret (v := .agg #[.slice none 0 0, .int .i64 2]) (results_cell_row (P := Try.prog) Try.results16 _ _ w.heap.size 27 _ (0, 0) _ rfl hE Try.underlying27 rfl (by kernel_rfl)) rfl
        ⟨so_ill _ _ _, (HB9.out.setCell (p := ⟨w.heap.size, 0, none⟩) (Nat.le_refl _) _).setCell (p := ⟨w.heap.size, 1, none⟩) (Nat.le_refl _) _⟩
  have g1 : ¬ 400 < n := by omega
  have g2 : ¬ 20000 < r.size := by omega
  by_cases h2 : okB xs = true
  rotate_left
  · rw [bnd_form h1 (.inl (by simpa using h2))]
    rw [show okB xs = false by simpa using h2] at i1
    rw [hxn] at hn i1 HO ⊢
    clear hO hw i2 hxn h1 h2
    go_enter Try.func16, Try.ntmps16
    go_wp2_with (first
      | (go_at_call 28; go_fit (i1 _ (row_own9 (HO.out _ HB0.out))); rintro e0 w1 ⟨rfl, hb⟩; have HA1 := Lib.hid (arr9_on HA0.out hb); have HB1 := Lib.hid (HB0.out.trans (hb.mono HB0.out.size)); clear hb)
      | (go_at_call 64; go_fit (i0 _ _); rintro e0 w9 ⟨rfl, hb⟩; have HA9 := Lib.hid (arr9_on HA1.out hb); have HB9 := Lib.hid (HB1.out.trans (hb.mono HB1.out.size)); clear hb; obtain ⟨⟨c0, c1⟩, k0, k1⟩ := arr9_two HA9.out))
    have hE : Arr _ w.heap.size 27 [.slice none 0 0, .int .i64 1] := ((HA9.out.put 0 (.slice none 0 0)).put 1 (.int .i64 1))
    exact bodyPost_ret (v := .agg #[.slice none 0 0, .int .i64 1]) (results_cell_row (P := Try.prog) Try.results16 _ _ w.heap.size 27 _ (0, 0) _ rfl hE Try.underlying27 rfl (by kernel_rfl)) rfl
      ⟨so_ill _ _ _, (HB9.out.setCell (p := ⟨w.heap.size, 0, none⟩) (Nat.le_refl _) _).setCell (p := ⟨w.heap.size, 1, none⟩) (Nat.le_refl _) _⟩
  replace i2 := fun W h => i2 W h2 h
  rw [h2] at i1
  by_cases hres : resB r = true
  rotate_left
  · rw [bnd_form h1 (.inr (by simpa using hres))]
    rw [show resB r = false by simpa using hres] at i3
    rw [hxn] at hn i1 HO ⊢
    clear hO hw i2 hxn h1 h2
    go_enter Try.func16, Try.ntmps16
    go_wp2_with (first
      | (go_at_call 28; go_fit (i1 _ (row_own9 (HO.out _ HB0.out))); rintro e0 w1 ⟨rfl, hb⟩; have HA1 := Lib.hid (arr9_on HA0.out hb); have HB1 := Lib.hid (HB0.out.trans (hb.mono HB0.out.size)); clear hb)
      | (go_at_call 65; go_fit (i3 _); rintro e0 w5 ⟨rfl, h5⟩; subst h5)
      | (go_at_call 64; go_fit (i0 _ _); rintro e0 w9 ⟨rfl, hb⟩; have HA9 := Lib.hid (arr9_on HA1.out hb); have HB9 := Lib.hid (HB1.out.trans (hb.mono HB1.out.size)); clear hb; obtain ⟨⟨c0, c1⟩, k0, k1⟩ := arr9_two HA9.out))
    have hE : Arr _ w.heap.size 27 [.slice none 0 0, .int .i64 1] := ((HA9.out.put 0 (.slice none 0 0)).put 1 (.int .i64 1))
    exact bodyPost_ret (v := .agg #[.slice none 0 0, .int .i64 1]) (results_cell_row (P := Try.prog) Try.results16 _ _ w.heap.size 27 _ (0, 0) _ rfl hE Try.underlying27 rfl (by kernel_rfl)) rfl
      ⟨so_ill _ _ _, (HB9.out.setCell (p := ⟨w.heap.size, 0, none⟩) (Nat.le_refl _) _).setCell (p := ⟨w.heap.size, 1, none⟩) (Nat.le_refl _) _⟩
  have hnf : ¬ (okB xs = false ∨ resB r = false) := by rw [h2, hres]; simp
  rw [hres] at i3
  unfold whereI at i2
  by_cases h3 : hereB r xs = true
  · rw [bnd_there h1 hnf h3]
    rw [if_pos h3] at i2
    have q1 : (0 : Int) ≤ (posS r xs : Int) := by omega
    obtain ⟨P, hP⟩ : ∃ P, posS r xs = P := ⟨_, rfl⟩
    rw [hP] at i2 q1
    rw [hxn] at hn i1 i2 HO ⊢
    clear hO hw hxn h1 h2 hP h3 hnf
    go_enter Try.func16, Try.ntmps16
    go_wp2_with (first
      | (go_at_call 28; go_fit (i1 _ (row_own9 (HO.out _ HB0.out))); rintro e0 w1 ⟨rfl, hb⟩; have HA1 := Lib.hid (arr9_on HA0.out hb); have HB1 := Lib.hid (HB0.out.trans (hb.mono HB0.out.size)); clear hb)
      | (go_at_call 65; go_fit (i3 _); rintro e0 w5 ⟨rfl, h5⟩; subst h5)
      | (go_at_call 66; go_fit (i2 _ (row_own9 (HO.out _ HB1.out))); rintro e0 w2 ⟨rfl, hb⟩; have HA2 := Lib.hid (arr9_on HA1.out hb); have HB2 := Lib.hid (HB1.out.trans (hb.mono HB1.out.size)); clear hb)
      | (go_at_call 64; go_fit (i0 _ _); rintro e0 w9 ⟨rfl, hb⟩; have HA9 := Lib.hid (arr9_on HA2.out hb); have HB9 := Lib.hid (HB2.out.trans (hb.mono HB2.out.size)); clear hb; obtain ⟨⟨c0, c1⟩, k0, k1⟩ := arr9_two HA9.out))
    have hE : Arr _ w.heap.size 27 [.slice none 0 0, .int .i64 7] := ((HA9.out.put 0 (.slice none 0 0)).put 1 (.int .i64 7))
    exact bodyPost_ret (v := .agg #[.slice none 0 0, .int .i64 7]) (results_cell_row (P := Try.prog) Try.results16 _ _ w.heap.size 27 _ (0, 0) _ rfl hE Try.underlying27 rfl (by kernel_rfl)) rfl
      ⟨so_ill _ _ _, (HB9.out.setCell (p := ⟨w.heap.size, 0, none⟩) (Nat.le_refl _) _).setCell (p := ⟨w.heap.size, 1, none⟩) (Nat.le_refl _) _⟩
  rw [if_neg h3] at i2
  by_cases h4 : xs.length = 5
  · rw [bnd_full h1 hnf h3 h4]
    rw [hxn] at hn i1 i2 HO h4 ⊢
    have q1 : (5 : Int) ≤ (n : Int) := by omega
    clear hO hw hxn h1 h2 h3 hnf h4
    go_enter Try.func16, Try.ntmps16
    go_wp2_with (first
      | (go_at_call 28; go_fit (i1 _ (row_own9 (HO.out _ HB0.out))); rintro e0 w1 ⟨rfl, hb⟩; have HA1 := Lib.hid (arr9_on HA0.out hb); have HB1 := Lib.hid (HB0.out.trans (hb.mono HB0.out.size)); clear hb)
      | (go_at_call 65; go_fit (i3 _); rintro e0 w5 ⟨rfl, h5⟩; subst h5)
      | (go_at_call 66; go_fit (i2 _ (row_own9 (HO.out _ HB1.out))); rintro e0 w2 ⟨rfl, hb⟩; have HA2 := Lib.hid (arr9_on HA1.out hb); have HB2 := Lib.hid (HB1.out.trans (hb.mono HB1.out.size)); clear hb)
      | (go_at_call 64; go_fit (i0 _ _); rintro e0 w9 ⟨rfl, hb⟩; have HA9 := Lib.hid (arr9_on HA2.out hb); have HB9 := Lib.hid (HB2.out.trans (hb.mono HB2.out.size)); clear hb; obtain ⟨⟨c0, c1⟩, k0, k1⟩ := arr9_two HA9.out))
    have hE : Arr _ w.heap.size 27 [.slice none 0 0, .int .i64 9] := ((HA9.out.put 0 (.slice none 0 0)).put 1 (.int .i64 9))
    exact bodyPost_ret (v := .agg #[.slice none 0 0, .int .i64 9]) (results_cell_row (P := Try.prog) Try.results16 _ _ w.heap.size 27 _ (0, 0) _ rfl hE Try.underlying27 rfl (by kernel_rfl)) rfl
      ⟨so_ill _ _ _, (HB9.out.setCell (p := ⟨w.heap.size, 0, none⟩) (Nat.le_refl _) _).setCell (p := ⟨w.heap.size, 1, none⟩) (Nat.le_refl _) _⟩
  rw [bnd_ok h1 hnf h3 h4]
  have h5 := (okB_iff.1 h2).1
  have hple := pos_le r xs
  have HTL : Hid ((xs.take (posS r xs)).length ≤ 5) := Lib.hid (by rw [List.length_take]; omega)
  obtain ⟨P, hP⟩ : ∃ P, posS r xs = P := ⟨_, rfl⟩
  rw [hP] at hple HTL ⊢
  have HLO : Hid (∀ k (hk : k < xs.length), k < P → Op.bytesLess xs[k].r.toList r.toList = true) := Lib.hid (by subst hP; exact fun k hk h => pos_lo hk h)
  have HAT : Hid (∀ (h : P < xs.length), Op.bytesLess xs[P].r.toList r.toList = false) := Lib.hid (by subst hP; exact fun h => pos_at h)
  obtain ⟨m, hm⟩ : ∃ m, ((xs.take P ++ [newS r]) ++ xs.drop P).length = m := ⟨_, rfl⟩
  have HM := Lib.hid hm
  obtain ⟨R, hR⟩ : ∃ R, (⟨(xs.take P ++ [newS r]) ++ xs.drop P, 0⟩ : SoL) = R := ⟨_, rfl⟩
  rw [hR]
  have HRR := Lib.hid hR
  clear hR
  have hcap : n ≤ c := by
    rcases hO.2 with ⟨h0, h0'⟩ | ⟨g', cap', cur, q1, _, _, q4, _⟩
    · omega
    · injection q1 with _ q2 q3
      subst q3
      omega
  have hpg : (p = none ∧ c = 0 ∧ xs = []) ∨ ∃ g, p = some ⟨g, 0, none⟩ := by
    rcases hO.2 with ⟨h0, h0'⟩ | ⟨g', cap', cur, q1, _, _, q4, _⟩
    · injection h0 with e1 e2 e3
      exact .inl ⟨e1, e3, List.eq_nil_of_length_eq_zero h0'⟩
    · injection q1 with q1
      exact .inr ⟨g', q1⟩
  rw [hxn] at hn i1 i2 HO h4 h5 hple ⊢
  have h6 : ¬ ((5 : Int) ≤ (n : Int)) := by omega
  have q2 : (P : Int) ≤ (n : Int) := by omega
  have q4 : (0 : Int) ≤ (P : Int) := by omega
  have q6 : (n : Int) ≤ (c : Int) := by omega
  have q7 : (P : Int) ≤ (c : Int) := by omega
  clear hO hw h1 h2 hnf h3 hP hres hm
  rcases hpg with ⟨rfl, rfl, hx0⟩ | ⟨g, rfl⟩
  · have HX0 := Lib.hid hx0
    obtain rfl : n = 0 := by rw [hx0] at hxn; exact hxn.symm
    obtain rfl : P = 0 := by omega
    clear hx0 hxn
    go_enter Try.func16, Try.ntmps16
    go_wp2_with (first
      | (go_at_call 28; go_fit (i1 _ (row_own9 (HO.out _ HB0.out))); rintro e0 w1 ⟨rfl, hb⟩; have HA1 := Lib.hid (arr9_on HA0.out hb); have HB1 := Lib.hid (HB0.out.trans (hb.mono HB0.out.size)); clear hb)
      | (go_at_call 65; go_fit (i3 _); rintro e0 w5 ⟨rfl, h5⟩; subst h5)
      | (go_at_call 66; go_fit (i2 _ (row_own9 (HO.out _ HB1.out))); rintro e0 w2 ⟨rfl, hb⟩; have HA2 := Lib.hid (arr9_on HA1.out hb); have HB2 := Lib.hid (HB1.out.trans (hb.mono HB1.out.size)); clear hb))
    go_loopw [5] (fun iq wr => ∃ k : Nat, k ≤ 0 ∧ iq = .int .i64 k ∧ Arr wr w.heap.size 27 [.slice none 0 0, .int .i64 0] ∧ Below w.heap.size w wr) (fun i _ => 0 - (intOf i).toNat)
    case atStart => exact ⟨0, Nat.zero_le _, rfl, HA2.out, HB2.out⟩
    case round =>
      obtain ⟨k, hk, rfl, hA, hb⟩ := hrel
      have HAr := Lib.hid hA
      have HBr := Lib.hid hb
      have hzd : w.heap.size < wr.heap.size := arr9_lt hA
      clear hA
      obtain rfl : k = 0 := by omega
      clear hb
      go_wp2_with (first
        | (at_builtin; have _ := HV5; refine wpList_plain rfl fun K hK => ?_; refine wp_app_row9 _ _ rfl wr.heap.size v5 (xs.take 0 ++ [newS r]) rfl HV5.out 0 none 0 0 (xs.drop 0) rfl (by rw [HX0.out, List.drop_nil]; exact ownC_nil _ _ _ _ _) (by rw [List.length_append, List.length_take, List.length_drop, HN.out]; first | (simp; done) | (simp; omega)) (by have := HS5.out; omega) ?_; intro v6 w6 hv6 hg6; have HV6 := Lib.hid hv6; have HA6 : Hid (Arr w6 w.heap.size 27 [.slice none 0 0, .int .i64 0]) := Lib.hid ((hg6.block _ (arr9_lt HA5.out) (fun e => by have := HW5.out _ e.symm; omega)).trans HA5.out); have HB6 : Hid (Below w.heap.size w w6) := Lib.hid (HB5.out.grown hg6 HB5.out.size (fun k hk => by have := HW5.out k hk; omega)); clear hv6 hg6; obtain ⟨q6, k6, e6, -⟩ := HV6.out.row seC_len; rw [HM.out] at e6; subst e6; obtain ⟨⟨c0, c1⟩, k0, k1⟩ := arr9_two HA6.out; refine hK _ _ ?_)
        | (at_builtin; have _ := HV4; refine wpList_plain rfl fun K hK => ?_; refine wp_app_one9 _ _ rfl wr.heap.size v4 (xs.take 0) rfl (HV4.out.alloc _) w4.heap.size (newS r) rfl (Arr.fresh w4 42 (seC (newS r))) (by have := HTL.out; omega) (by rw [World.size_alloc]; have := HS4.out; omega) ?_; intro v5 w5 hv5 hg5; have hb4 := own_base HV4.out; have hlt4 := (arr9_lt HA4.out); have HV5 := Lib.hid hv5; have HA5 : Hid (Arr w5 w.heap.size 27 [.slice none 0 0, .int .i64 0]) := Lib.hid ((hg5.block _ (by rw [World.size_alloc]; omega) (fun e => by have := hb4 _ e.symm; omega)).trans (arr9_on HA4.out ((Below.refl _ _).alloc (Nat.le_refl _) _))); have HB5 : Hid (Below w.heap.size w w5) := Lib.hid ((HB4.out.alloc HB4.out.size _).grown hg5 (HB4.out.alloc HB4.out.size _).size (fun k hk => by have := hb4 k hk; omega)); have HW5 := Lib.hid (own_base hv5); have HS5 : Hid (wr.heap.size ≤ w5.heap.size) := Lib.hid (by have := hg5.size; have := HS4.out; rw [World.size_alloc] at *; omega); clear hv5 hg5 hb4; refine hK _ _ ?_)
        | (at_builtin; refine wpList_plain rfl fun K hK => ?_; refine wp_app_row9 _ _ rfl wr.heap.size _ [] rfl (empty_row9 wr) 0 none 0 0 (xs.take 0) rfl (by rw [HX0.out, List.take_nil]; exact ownC_nil _ _ _ _ _) (by have := HTL.out; rw [List.length_nil, Nat.zero_add]; omega) (by simp) ?_; intro v4 w4 hv4 hg4; rw [List.nil_append] at hv4; have HV4 := Lib.hid hv4; have HA4 : Hid (Arr w4 w.heap.size 27 [.slice none 0 0, .int .i64 0]) := Lib.hid ((hg4.block _ (by rw [World.size_alloc]; omega) (fun e => by injection e with e; have e' : wr.heap.size = w.heap.size := e.symm; omega)).trans (arr9_on HAr.out ((Below.refl _ _).alloc (Nat.le_refl _) _))); have HB4 : Hid (Below w.heap.size w w4) := Lib.hid ((HBr.out.alloc HBr.out.size _).grown hg4 (HBr.out.alloc HBr.out.size _).size (fun k hk => by injection hk with hk; have hk' : wr.heap.size = k := hk; omega)); have HS4 : Hid (wr.heap.size ≤ w4.heap.size) := Lib.hid (by have := hg4.size; rw [World.size_alloc] at this; omega); clear hv4 hg4; refine hK _ _ ?_))
      obtain rfl := HM.out
      obtain rfl := HRR.out
      obtain ⟨hE, hO2, hBl⟩ := pass9 (W2 := w) (R := ⟨(xs.take 0 ++ [newS r]) ++ xs.drop 0, 0⟩) HA6.out HB6.out (Nat.le_refl _) hzd HV6.out
      exact bodyPost_ret (v := .agg #[.slice q6 ((xs.take 0 ++ [newS r]) ++ xs.drop 0).length k6, .int .i64 0]) (results_cell_row (P := Try.prog) Try.results16 _ _ w.heap.size 27 _ (0, 0) _ rfl hE Try.underlying27 rfl (by kernel_rfl)) rfl
        ⟨⟨q6, k6, rfl, hO2⟩, hBl⟩
  · clear hxn
    go_enter Try.func16, Try.ntmps16
    go_wp2_with (first
      | (go_at_call 28; go_fit (i1 _ (row_own9 (HO.out _ HB0.out))); rintro e0 w1 ⟨rfl, hb⟩; have HA1 := Lib.hid (arr9_on HA0.out hb); have HB1 := Lib.hid (HB0.out.trans (hb.mono HB0.out.size)); clear hb)
      | (go_at_call 65; go_fit (i3 _); rintro e0 w5 ⟨rfl, h5⟩; subst h5)
      | (go_at_call 66; go_fit (i2 _ (row_own9 (HO.out _ HB1.out))); rintro e0 w2 ⟨rfl, hb⟩; have HA2 := Lib.hid (arr9_on HA1.out hb); have HB2 := Lib.hid (HB1.out.trans (hb.mono HB1.out.size)); clear hb))
    go_loopw [5] (fun iq wr => ∃ k : Nat, k ≤ P ∧ iq = .int .i64 k ∧ Arr wr w.heap.size 27 [.slice none 0 0, .int .i64 0] ∧ Below w.heap.size w wr) (fun i _ => P - (intOf i).toNat)
    case atStart => exact ⟨0, Nat.zero_le _, rfl, HA2.out, HB2.out⟩
    case round =>
      obtain ⟨k, hk, rfl, hA, hb⟩ := hrel
      have HAr := Lib.hid hA
      have HBr := Lib.hid hb
      have hzd : w.heap.size < wr.heap.size := arr9_lt hA
      clear hA
      by_cases hlt : k < P
      · have hlt1 : k < xs.length := by rw [HN.out]; omega
        obtain ⟨g', hgg, hg, a0, -⟩ := row_se4 (row_own9 (HO.out _ hb)) hlt1
        injection hgg with hgg
        injection hgg with hgg
        subst hgg
        have hbl := HLO.out k hlt1 hlt
        obtain ⟨x, hx⟩ : ∃ x, xs[k] = x := ⟨_, rfl⟩
        rw [hx] at a0 hbl
        clear hb hx
        go_wp2
        go_roundw
        case rel => exact ⟨k + 1, by omega, by go_num, HAr.out, HBr.out⟩
        case measure => simp [intOf]; omega
      · have hkP : k = P := by omega
        subst hkP
        clear hlt
        by_cases hpn : k < n
        · have hlt1 : k < xs.length := by rw [HN.out]; omega
          obtain ⟨g', hgg, hg, a0, -⟩ := row_se4 (row_own9 (HO.out _ hb)) hlt1
          injection hgg with hgg
          injection hgg with hgg
          subst hgg
          have hbl := HAT.out hlt1
          obtain ⟨x, hx⟩ : ∃ x, xs[k] = x := ⟨_, rfl⟩
          rw [hx] at a0 hbl
          have hck : ¬ c = k := by omega
          have hck2 : ¬ ((c : Int) = (k : Int)) := by omega
          clear hb hx
          go_wp2_with (first
            | (at_builtin; have _ := HV5; refine wpList_plain rfl fun K hK => ?_; refine wp_app_sub9 _ _ rfl wr.heap.size v5 (xs.take k ++ [newS r]) rfl HV5.out g (k * 4) (n - k) (c - k) (xs.drop k) rfl (by rw [List.length_drop, HN.out] <;> omega) (fun i hi j hj => by rw [List.length_drop, HN.out] at hi; first | (exfalso; omega) | rw [show (k * 4) + (i * 4 + j) = (k + i) * 4 + j by omega, OwnC.cell seC_len (HO.out _ HB5.out) (k + i) j (by rw [HN.out]; omega) hj, List.getElem_drop]) (by rw [List.length_append, List.length_take, List.length_drop, HN.out]; first | (simp; done) | (simp; omega)) (by have := HS5.out; omega) ?_; intro v6 w6 hv6 hg6; have HV6 := Lib.hid hv6; have HA6 : Hid (Arr w6 w.heap.size 27 [.slice none 0 0, .int .i64 0]) := Lib.hid ((hg6.block _ (arr9_lt HA5.out) (fun e => by have := HW5.out _ e.symm; omega)).trans HA5.out); have HB6 : Hid (Below w.heap.size w w6) := Lib.hid (HB5.out.grown hg6 HB5.out.size (fun k hk => by have := HW5.out k hk; omega)); clear hv6 hg6; obtain ⟨q6, k6, e6, -⟩ := HV6.out.row seC_len; rw [HM.out] at e6; subst e6; obtain ⟨⟨c0, c1⟩, k0, k1⟩ := arr9_two HA6.out; refine hK _ _ ?_)
            | (at_builtin; have _ := HV4; refine wpList_plain rfl fun K hK => ?_; refine wp_app_one9 _ _ rfl wr.heap.size v4 (xs.take k) rfl (HV4.out.alloc _) w4.heap.size (newS r) rfl (Arr.fresh w4 42 (seC (newS r))) (by have := HTL.out; omega) (by rw [World.size_alloc]; have := HS4.out; omega) ?_; intro v5 w5 hv5 hg5; have hb4 := own_base HV4.out; have hlt4 := (arr9_lt HA4.out); have HV5 := Lib.hid hv5; have HA5 : Hid (Arr w5 w.heap.size 27 [.slice none 0 0, .int .i64 0]) := Lib.hid ((hg5.block _ (by rw [World.size_alloc]; omega) (fun e => by have := hb4 _ e.symm; omega)).trans (arr9_on HA4.out ((Below.refl _ _).alloc (Nat.le_refl _) _))); have HB5 : Hid (Below w.heap.size w w5) := Lib.hid ((HB4.out.alloc HB4.out.size _).grown hg5 (HB4.out.alloc HB4.out.size _).size (fun k hk => by have := hb4 k hk; omega)); have HW5 := Lib.hid (own_base hv5); have HS5 : Hid (wr.heap.size ≤ w5.heap.size) := Lib.hid (by have := hg5.size; have := HS4.out; rw [World.size_alloc] at *; omega); clear hv5 hg5 hb4; refine hK _ _ ?_)
            | (at_builtin; refine wpList_plain rfl fun K hK => ?_; refine wp_app_sub9 _ _ rfl wr.heap.size _ [] rfl (empty_row9 wr) g 0 k c (xs.take k) rfl (by rw [List.length_take, HN.out]; omega) (fun i hi j hj => by have hi1 : i < k := (by rw [List.length_take] at hi; omega); rw [Nat.zero_add, OwnC.cell seC_len (HO.out _ (HBr.out.alloc HBr.out.size _)) i j (by rw [HN.out]; omega) hj, List.getElem_take]) (by rw [List.length_take, HN.out]; first | (simp; done) | (simp; omega)) (by simp) ?_; intro v4 w4 hv4 hg4; rw [List.nil_append] at hv4; have HV4 := Lib.hid hv4; have HA4 : Hid (Arr w4 w.heap.size 27 [.slice none 0 0, .int .i64 0]) := Lib.hid ((hg4.block _ (by rw [World.size_alloc]; omega) (fun e => by injection e with e; have e' : wr.heap.size = w.heap.size := e.symm; omega)).trans (arr9_on HAr.out ((Below.refl _ _).alloc (Nat.le_refl _) _))); have HB4 : Hid (Below w.heap.size w w4) := Lib.hid ((HBr.out.alloc HBr.out.size _).grown hg4 (HBr.out.alloc HBr.out.size _).size (fun k hk => by injection hk with hk; have hk' : wr.heap.size = k := hk; omega)); have HS4 : Hid (wr.heap.size ≤ w4.heap.size) := Lib.hid (by have := hg4.size; rw [World.size_alloc] at this; omega); clear hv4 hg4; refine hK _ _ ?_))
          obtain rfl := HM.out
          obtain rfl := HRR.out
          obtain ⟨hE, hO2, hBl⟩ := pass9 (W2 := w) (R := ⟨(xs.take k ++ [newS r]) ++ xs.drop k, 0⟩) HA6.out HB6.out (Nat.le_refl _) hzd HV6.out
          exact bodyPost_ret (v := .agg #[.slice q6 ((xs.take k ++ [newS r]) ++ xs.drop k).length k6, .int .i64 0]) (results_cell_row (P := Try.prog) Try.results16 _ _ w.heap.size 27 _ (0, 0) _ rfl hE Try.underlying27 rfl (by kernel_rfl)) rfl
            ⟨⟨q6, k6, rfl, hO2⟩, hBl⟩
        · obtain rfl : k = n := by omega
          clear hb
          by_cases hc : c = k
          · obtain rfl : k = c := hc.symm
            go_wp2_with (first
              | (at_builtin; have _ := HV5; refine wpList_plain rfl fun K hK => ?_; refine wp_app_sub9 _ _ rfl wr.heap.size v5 (xs.take k ++ [newS r]) rfl HV5.out g 0 0 0 (xs.drop k) rfl (by rw [List.length_drop, HN.out] <;> omega) (fun i hi j hj => by rw [List.length_drop, HN.out] at hi; first | (exfalso; omega) | rw [show 0 + (i * 4 + j) = (k + i) * 4 + j by omega, OwnC.cell seC_len (HO.out _ HB5.out) (k + i) j (by rw [HN.out]; omega) hj, List.getElem_drop]) (by rw [List.length_append, List.length_take, List.length_drop, HN.out]; first | (simp; done) | (simp; omega)) (by have := HS5.out; omega) ?_; intro v6 w6 hv6 hg6; have HV6 := Lib.hid hv6; have HA6 : Hid (Arr w6 w.heap.size 27 [.slice none 0 0, .int .i64 0]) := Lib.hid ((hg6.block _ (arr9_lt HA5.out) (fun e => by have := HW5.out _ e.symm; omega)).trans HA5.out); have HB6 : Hid (Below w.heap.size w w6) := Lib.hid (HB5.out.grown hg6 HB5.out.size (fun k hk => by have := HW5.out k hk; omega)); clear hv6 hg6; obtain ⟨q6, k6, e6, -⟩ := HV6.out.row seC_len; rw [HM.out] at e6; subst e6; obtain ⟨⟨c0, c1⟩, k0, k1⟩ := arr9_two HA6.out; refine hK _ _ ?_)
              | (at_builtin; have _ := HV4; refine wpList_plain rfl fun K hK => ?_; refine wp_app_one9 _ _ rfl wr.heap.size v4 (xs.take k) rfl (HV4.out.alloc _) w4.heap.size (newS r) rfl (Arr.fresh w4 42 (seC (newS r))) (by have := HTL.out; omega) (by rw [World.size_alloc]; have := HS4.out; omega) ?_; intro v5 w5 hv5 hg5; have hb4 := own_base HV4.out; have hlt4 := (arr9_lt HA4.out); have HV5 := Lib.hid hv5; have HA5 : Hid (Arr w5 w.heap.size 27 [.slice none 0 0, .int .i64 0]) := Lib.hid ((hg5.block _ (by rw [World.size_alloc]; omega) (fun e => by have := hb4 _ e.symm; omega)).trans (arr9_on HA4.out ((Below.refl _ _).alloc (Nat.le_refl _) _))); have HB5 : Hid (Below w.heap.size w w5) := Lib.hid ((HB4.out.alloc HB4.out.size _).grown hg5 (HB4.out.alloc HB4.out.size _).size (fun k hk => by have := hb4 k hk; omega)); have HW5 := Lib.hid (own_base hv5); have HS5 : Hid (wr.heap.size ≤ w5.heap.size) := Lib.hid (by have := hg5.size; have := HS4.out; rw [World.size_alloc] at *; omega); clear hv5 hg5 hb4; refine hK _ _ ?_)
              | (at_builtin; refine wpList_plain rfl fun K hK => ?_; refine wp_app_sub9 _ _ rfl wr.heap.size _ [] rfl (empty_row9 wr) g 0 k k (xs.take k) rfl (by rw [List.length_take, HN.out]; omega) (fun i hi j hj => by have hi1 : i < k := (by rw [List.length_take] at hi; omega); rw [Nat.zero_add, OwnC.cell seC_len (HO.out _ (HBr.out.alloc HBr.out.size _)) i j (by rw [HN.out]; omega) hj, List.getElem_take]) (by rw [List.length_take, HN.out]; first | (simp; done) | (simp; omega)) (by simp) ?_; intro v4 w4 hv4 hg4; rw [List.nil_append] at hv4; have HV4 := Lib.hid hv4; have HA4 : Hid (Arr w4 w.heap.size 27 [.slice none 0 0, .int .i64 0]) := Lib.hid ((hg4.block _ (by rw [World.size_alloc]; omega) (fun e => by injection e with e; have e' : wr.heap.size = w.heap.size := e.symm; omega)).trans (arr9_on HAr.out ((Below.refl _ _).alloc (Nat.le_refl _) _))); have HB4 : Hid (Below w.heap.size w w4) := Lib.hid ((HBr.out.alloc HBr.out.size _).grown hg4 (HBr.out.alloc HBr.out.size _).size (fun k hk => by injection hk with hk; have hk' : wr.heap.size = k := hk; omega)); have HS4 : Hid (wr.heap.size ≤ w4.heap.size) := Lib.hid (by have := hg4.size; rw [World.size_alloc] at this; omega); clear hv4 hg4; refine hK _ _ ?_))
            obtain rfl := HM.out
            obtain rfl := HRR.out
            obtain ⟨hE, hO2, hBl⟩ := pass9 (W2 := w) (R := ⟨(xs.take k ++ [newS r]) ++ xs.drop k, 0⟩) HA6.out HB6.out (Nat.le_refl _) hzd HV6.out
            exact bodyPost_ret (v := .agg #[.slice q6 ((xs.take k ++ [newS r]) ++ xs.drop k).length k6, .int .i64 0]) (results_cell_row (P := Try.prog) Try.results16 _ _ w.heap.size 27 _ (0, 0) _ rfl hE Try.underlying27 rfl (by kernel_rfl)) rfl
              ⟨⟨q6, k6, rfl, hO2⟩, hBl⟩
          · have hck2 : ¬ ((c : Int) = (k : Int)) := by omega
            go_wp2_with (first
              | (at_builtin; have _ := HV5; refine wpList_plain rfl fun K hK => ?_; refine wp_app_sub9 _ _ rfl wr.heap.size v5 (xs.take k ++ [newS r]) rfl HV5.out g (k * 4) 0 (c - k) (xs.drop k) rfl (by rw [List.length_drop, HN.out] <;> omega) (fun i hi j hj => by rw [List.length_drop, HN.out] at hi; first | (exfalso; omega) | rw [show (k * 4) + (i * 4 + j) = (k + i) * 4 + j by omega, OwnC.cell seC_len (HO.out _ HB5.out) (k + i) j (by rw [HN.out]; omega) hj, List.getElem_drop]) (by rw [List.length_append, List.length_take, List.length_drop, HN.out]; first | (simp; done) | (simp; omega)) (by have := HS5.out; omega) ?_; intro v6 w6 hv6 hg6; have HV6 := Lib.hid hv6; have HA6 : Hid (Arr w6 w.heap.size 27 [.slice none 0 0, .int .i64 0]) := Lib.hid ((hg6.block _ (arr9_lt HA5.out) (fun e => by have := HW5.out _ e.symm; omega)).trans HA5.out); have HB6 : Hid (Below w.heap.size w w6) := Lib.hid (HB5.out.grown hg6 HB5.out.size (fun k hk => by have := HW5.out k hk; omega)); clear hv6 hg6; obtain ⟨q6, k6, e6, -⟩ := HV6.out.row seC_len; rw [HM.out] at e6; subst e6; obtain ⟨⟨c0, c1⟩, k0, k1⟩ := arr9_two HA6.out; refine hK _ _ ?_)
              | (at_builtin; have _ := HV4; refine wpList_plain rfl fun K hK => ?_; refine wp_app_one9 _ _ rfl wr.heap.size v4 (xs.take k) rfl (HV4.out.alloc _) w4.heap.size (newS r) rfl (Arr.fresh w4 42 (seC (newS r))) (by have := HTL.out; omega) (by rw [World.size_alloc]; have := HS4.out; omega) ?_; intro v5 w5 hv5 hg5; have hb4 := own_base HV4.out; have hlt4 := (arr9_lt HA4.out); have HV5 := Lib.hid hv5; have HA5 : Hid (Arr w5 w.heap.size 27 [.slice none 0 0, .int .i64 0]) := Lib.hid ((hg5.block _ (by rw [World.size_alloc]; omega) (fun e => by have := hb4 _ e.symm; omega)).trans (arr9_on HA4.out ((Below.refl _ _).alloc (Nat.le_refl _) _))); have HB5 : Hid (Below w.heap.size w w5) := Lib.hid ((HB4.out.alloc HB4.out.size _).grown hg5 (HB4.out.alloc HB4.out.size _).size (fun k hk => by have := hb4 k hk; omega)); have HW5 := Lib.hid (own_base hv5); have HS5 : Hid (wr.heap.size ≤ w5.heap.size) := Lib.hid (by have := hg5.size; have := HS4.out; rw [World.size_alloc] at *; omega); clear hv5 hg5 hb4; refine hK _ _ ?_)
              | (at_builtin; refine wpList_plain rfl fun K hK => ?_; refine wp_app_sub9 _ _ rfl wr.heap.size _ [] rfl (empty_row9 wr) g 0 k c (xs.take k) rfl (by rw [List.length_take, HN.out]; omega) (fun i hi j hj => by have hi1 : i < k := (by rw [List.length_take] at hi; omega); rw [Nat.zero_add, OwnC.cell seC_len (HO.out _ (HBr.out.alloc HBr.out.size _)) i j (by rw [HN.out]; omega) hj, List.getElem_take]) (by rw [List.length_take, HN.out]; first | (simp; done) | (simp; omega)) (by simp) ?_; intro v4 w4 hv4 hg4; rw [List.nil_append] at hv4; have HV4 := Lib.hid hv4; have HA4 : Hid (Arr w4 w.heap.size 27 [.slice none 0 0, .int .i64 0]) := Lib.hid ((hg4.block _ (by rw [World.size_alloc]; omega) (fun e => by injection e with e; have e' : wr.heap.size = w.heap.size := e.symm; omega)).trans (arr9_on HAr.out ((Below.refl _ _).alloc (Nat.le_refl _) _))); have HB4 : Hid (Below w.heap.size w w4) := Lib.hid ((HBr.out.alloc HBr.out.size _).grown hg4 (HBr.out.alloc HBr.out.size _).size (fun k hk => by injection hk with hk; have hk' : wr.heap.size = k := hk; omega)); have HS4 : Hid (wr.heap.size ≤ w4.heap.size) := Lib.hid (by have := hg4.size; rw [World.size_alloc] at this; omega); clear hv4 hg4; refine hK _ _ ?_))
            obtain rfl := HM.out
            obtain rfl := HRR.out
            obtain ⟨hE, hO2, hBl⟩ := pass9 (W2 := w) (R := ⟨(xs.take k ++ [newS r]) ++ xs.drop k, 0⟩) HA6.out HB6.out (Nat.le_refl _) hzd HV6.out
            exact bodyPost_ret (v := .agg #[.slice q6 ((xs.take k ++ [newS r]) ++ xs.drop k).length k6, .int .i64 0]) (results_cell_row (P := Try.prog) Try.results16 _ _ w.heap.size 27 _ (0, 0) _ rfl hE Try.underlying27 rfl (by kernel_rfl)) rfl
              ⟨⟨q6, k6, rfl, hO2⟩, hBl⟩
end Go.Proofs.Ytkdljhmenejckaa
