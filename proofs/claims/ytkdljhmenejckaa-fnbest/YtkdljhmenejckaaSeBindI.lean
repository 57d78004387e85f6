/- What impl.Bind answers. -/
import Derived.Test.YtkdljhmenejckaaSeInsI
namespace Go.Proofs.Ytkdljhmenejckaa
set_option linter.unusedSimpArgs false
set_option linter.unusedVariables false
open Go.RowKit Go.Joins

set_option maxRecDepth 100000 in
set_option maxHeartbeats 4000000 in
theorem impl_insert_end (xs : List SeL) (y : SeL) (n g vb B : Nat) (w : World) (hx : xs.length = n) (hn : n ≤ 5) (hO : OwnC seC w B 42 4 (.slice (some ⟨g, 0, none⟩) n n) xs) (hB : B ≤ w.heap.size) (hY : Arr w vb 42 (seC y)) :
    Calls Try.prog 59 #[.slice (some ⟨g, 0, none⟩) n n, .int .i64 (n : Int), .slice (some ⟨vb, 0, none⟩) 1 1] w fun e w' =>
      (∃ p k, e = .returned (.slice p (n + 1) k) ∧ OwnC seC w' B 42 4 (.slice p (n + 1) k) (xs ++ [y])) ∧ w.grownBy w' (some g) := by
  have HO := Lib.hid hO
  have HY := Lib.hid hY
  have HL : Hid (xs.length ≤ 1000000) := Lib.hid (by omega)
  have HM : Hid ((xs ++ [y]).length = n + 1) := Lib.hid (by simp [hx])
  have HBB := Lib.hid hB
  have q1 : (0 : Int) ≤ (n : Int) := by omega
  clear hO hY hx hB
  go_enter Try.func59, Try.ntmps59
  go_wp2_with (at_builtin; refine wpList_plain rfl fun K hK => ?_; refine wp_app_one9 _ _ rfl B _ xs rfl HO.out vb y rfl HY.out HL.out HBB.out ?_; intro v2 w2 hv2 hg2; obtain ⟨q2, k2, e2, -⟩ := hv2.row seC_len; rw [HM.out] at e2; subst e2; have HV2 := Lib.hid hv2; have HG2 : Hid (w.grownBy w2 (some g)) := Lib.hid hg2; clear hv2 hg2; refine hK _ _ ?_)
  go_ret
  exact ⟨⟨q2, k2, rfl, HV2.out⟩, HG2.out⟩
theorem impl_insert9 (xs : List SeL) (y : SeL) (n P g vb : Nat) (w : World) (hx : xs.length = n) (hn : n ≤ 5) (hP : P ≤ n) (hO : OwnC seC w g 42 4 (.slice (some ⟨g, 0, none⟩) n n) xs) (hY : Arr w vb 42 (seC y)) :
    Calls Try.prog 59 #[.slice (some ⟨g, 0, none⟩) n n, .int .i64 (P : Int), .slice (some ⟨vb, 0, none⟩) 1 1] w fun e w' =>
      (∃ p k, e = .returned (.slice p (n + 1) k) ∧ OwnC seC w' g 42 4 (.slice p (n + 1) k) ((xs.take P ++ [y]) ++ xs.drop P)) ∧ Below g w w' := by
  obtain ⟨hS, -, -, -⟩ := own_full9 hO
  have hgw : g < w.heap.size := arr9_lt hS
  rcases Nat.lt_or_ge P n with h | h
  · refine (impl_insert_mid xs y n P g vb g w hx hn h hO hY).mono ?_
    rintro e w' ⟨⟨G, rfl, h1⟩, h2⟩
    exact ⟨⟨_, G, rfl, h1.mono (Nat.le_of_lt hgw)⟩, h2.mono (Nat.le_of_lt hgw)⟩
  · obtain rfl : P = n := by omega
    refine (impl_insert_end xs y P g vb g w hx hn hO (Nat.le_of_lt hgw) hY).mono ?_
    rintro e w' ⟨⟨p, k, rfl, h1⟩, h2⟩
    refine ⟨⟨p, k, rfl, ?_⟩, (Below.refl g w).grown h2 (Nat.le_of_lt hgw) (fun k hk => by injection hk with hk; omega)⟩
    rw [List.take_of_length_le (by omega), List.drop_eq_nil_of_le (by omega), List.append_nil]
    exact h1
theorem at_badB {xs : List SeL} {r : ByteArray} (h : (atR xs r).2 ≠ 0) (h6 : (atR xs r).2 ≠ 6) : bindR xs r = illS (atR xs r).2 := by
  unfold atR at h h6 ⊢
  unfold bindR
  split
  · rfl
  · rename_i h1
    rw [if_neg h1] at h h6
    split
    · rename_i h2
      by_cases h3 : okB xs = false
      · rw [if_pos h3]
      · rw [if_neg h3] at h h6
        split at h
        · rename_i h4; rw [if_pos h4] at h6; exact absurd rfl h6
        · exact absurd rfl h
    · rename_i h2
      have h3 : ¬ okB xs = false := fun e => h2 (.inl e)
      rw [if_neg h3] at h h6
      split at h
      · rename_i h4; rw [if_pos h4] at h6; exact absurd rfl h6
      · exact absurd rfl h
theorem at_six {xs : List SeL} {r : ByteArray} (h : (atR xs r).2 = 6) : ¬ (400 < xs.length ∨ 20000 < r.size) ∧ okB xs = true ∧ ¬ hereB r xs = true ∧ (atR xs r).1 = (posS r xs : Int) := by
  unfold atR at h ⊢
  split at h
  · cases h
  · rename_i h1
    split at h
    · cases h
    · rename_i h2
      split at h
      · rename_i h3
        refine ⟨h1, by simpa using h2, by rw [h3]; decide, ?_⟩
        rw [if_neg h1, if_neg h2, if_pos h3]
      · cases h
set_option maxRecDepth 100000 in
set_option maxHeartbeats 4000000 in
theorem impl_bind (xs : List SeL) (r : ByteArray) (p : Option Addr) (c : Nat) (w : World) (hn : xs.length ≤ 1048576) (hr : r.size ≤ 1048576) (hw : ∀ x ∈ xs, x.r.size ≤ 1048576 ∧ x.s.size ≤ 1048576) (hR : RowC seC 4 w p xs) :
    Calls Try.prog 9 #[.slice p xs.length c, .string r] w fun e w' => SoIs w.heap.size (bindR xs r) e w' ∧ Below w.heap.size w w' := by
  have HR := Lib.hid (fun W (h : Below w.heap.size w W) => hR.on h)
  have i1 := fun W h => impl_at xs r p c W hn hr (fun x hx => by have := (hw x hx).1; unfold maxLen; omega) h
  have i2 := fun W => impl_res9 r W (by unfold maxLen; omega)
  have i3 := fun W h => impl_sescopy xs p c W hn hw h
  have i4 := fun W b hb => joined_at9 r W (by omega) b hb
  unfold SaysB at i2
  have HA0 : Hid (Arr (w.alloc (.cells #[.slice none 0 0, .int .i64 0] 27)) w.heap.size 27 [.slice none 0 0, .int .i64 0]) := Lib.hid (Arr.fresh w _ [.slice none 0 0, .int .i64 0])
  have HB0 : Hid (Below w.heap.size w (w.alloc (.cells #[.slice none 0 0, .int .i64 0] 27))) := Lib.hid ((Below.refl _ _).alloc (Nat.le_refl _) _)
  obtain ⟨K, hK⟩ : ∃ K, (atR xs r).1 = K := ⟨_, rfl⟩
  obtain ⟨C, hC⟩ : ∃ C, (atR xs r).2 = C := ⟨_, rfl⟩
  rw [hK, hC] at i1
  by_cases h0 : C = 0
  · subst h0
    obtain ⟨g1, g2, g3, g4⟩ := at_ok hC
    rw [bnd_there g1 (by rw [g2, here_res g2 g3]; simp) g3]
    clear hR hw hr hK hC i2 i3 i4 g1 g2 g3 g4
    go_enter Try.func9, Try.ntmps9
    go_wp2_with (first
      | (go_at_call 57; go_fit (i1 _ (HR.out _ HB0.out)); rintro e w1 ⟨rfl, hb⟩; have HA1 := Lib.hid (arr9_on HA0.out hb); have HB1 := Lib.hid (HB0.out.trans (hb.mono HB0.out.size)); clear hb; obtain ⟨⟨c0, c1⟩, f0, f1⟩ := arr9_two HA1.out))
    have hE : Arr _ w.heap.size 27 [.slice none 0 0, .int .i64 7] := ((HA1.out.put 0 (.slice none 0 0)).put 1 (.int .i64 7))
    exact bodyPost_ret (v := .agg #[.slice none 0 0, .int .i64 7]) (results_cell_row (P := Try.prog) Try.results9 _ _ w.heap.size 27 _ (0, 0) _ rfl hE Try.underlying27 rfl (by kernel_rfl)) rfl
      ⟨so_ill _ _ _, (HB1.out.setCell (p := ⟨w.heap.size, 0, none⟩) (Nat.le_refl _) _).setCell (p := ⟨w.heap.size, 1, none⟩) (Nat.le_refl _) _⟩
  by_cases h6 : C = 6
  rotate_left
  · have hw0 := at_badB (xs := xs) (r := r) (by rw [hC]; exact h0) (by rw [hC]; exact h6)
    rw [hC] at hw0
    rw [hw0]
    have q1 : (C == 0) = false := by simpa using h0
    have q2 : (C != 6) = true := by simpa using h6
    clear hR hw hr hK hC hw0 i2 i3 i4
    go_enter Try.func9, Try.ntmps9
    go_wp2_with (first
      | (go_at_call 57; go_fit (i1 _ (HR.out _ HB0.out)); rintro e w1 ⟨rfl, hb⟩; have HA1 := Lib.hid (arr9_on HA0.out hb); have HB1 := Lib.hid (HB0.out.trans (hb.mono HB0.out.size)); clear hb; obtain ⟨⟨c0, c1⟩, f0, f1⟩ := arr9_two HA1.out))
    have hE : Arr _ w.heap.size 27 [.slice none 0 0, .int .i64 C] := ((HA1.out.put 0 (.slice none 0 0)).put 1 (.int .i64 C))
    exact bodyPost_ret (v := .agg #[.slice none 0 0, .int .i64 C]) (results_cell_row (P := Try.prog) Try.results9 _ _ w.heap.size 27 _ (0, 0) _ rfl hE Try.underlying27 rfl (by kernel_rfl)) rfl
      ⟨so_ill _ _ _, (HB1.out.setCell (p := ⟨w.heap.size, 0, none⟩) (Nat.le_refl _) _).setCell (p := ⟨w.heap.size, 1, none⟩) (Nat.le_refl _) _⟩
  subst h6
  obtain ⟨g1, g2, g3, g4⟩ := at_six hC
  rw [hK] at g4
  subst g4
  by_cases hres : resB r = true
  rotate_left
  · rw [bnd_form g1 (.inr (by simpa using hres))]
    rw [show resB r = false by simpa using hres] at i2
    clear hR hw hr hK hC h0 i3 i4 g1 g2 g3 hres
    go_enter Try.func9, Try.ntmps9
    go_wp2_with (first
      | (go_at_call 57; go_fit (i1 _ (HR.out _ HB0.out)); rintro e w1 ⟨rfl, hb⟩; have HA1 := Lib.hid (arr9_on HA0.out hb); have HB1 := Lib.hid (HB0.out.trans (hb.mono HB0.out.size)); clear hb; obtain ⟨⟨c0, c1⟩, f0, f1⟩ := arr9_two HA1.out)
      | (go_at_call 58; go_fit (i2 _); rintro e0 w5 ⟨rfl, h5⟩; subst h5))
    have hE : Arr _ w.heap.size 27 [.slice none 0 0, .int .i64 1] := ((HA1.out.put 0 (.slice none 0 0)).put 1 (.int .i64 1))
    exact bodyPost_ret (v := .agg #[.slice none 0 0, .int .i64 1]) (results_cell_row (P := Try.prog) Try.results9 _ _ w.heap.size 27 _ (0, 0) _ rfl hE Try.underlying27 rfl (by kernel_rfl)) rfl
      ⟨so_ill _ _ _, (HB1.out.setCell (p := ⟨w.heap.size, 0, none⟩) (Nat.le_refl _) _).setCell (p := ⟨w.heap.size, 1, none⟩) (Nat.le_refl _) _⟩
  have hnf : ¬ (okB xs = false ∨ resB r = false) := by rw [g2, hres]; simp
  rw [hres] at i2
  obtain ⟨n, hxn⟩ : ∃ n, xs.length = n := ⟨_, rfl⟩
  have HN := Lib.hid hxn
  by_cases h5 : xs.length = 5
  · rw [bnd_full g1 hnf g3 h5]
    have q1 : ((xs.length : Nat) : Int) = 5 := by omega
    rw [h5] at i1 i3 ⊢
    clear hR hw hr hK hC h0 i3 i4 g1 g2 g3 hres hnf q1 h5 hxn
    go_enter Try.func9, Try.ntmps9
    go_wp2_with (first
      | (go_at_call 57; go_fit (i1 _ (HR.out _ HB0.out)); rintro e w1 ⟨rfl, hb⟩; have HA1 := Lib.hid (arr9_on HA0.out hb); have HB1 := Lib.hid (HB0.out.trans (hb.mono HB0.out.size)); clear hb; obtain ⟨⟨c0, c1⟩, f0, f1⟩ := arr9_two HA1.out)
      | (go_at_call 58; go_fit (i2 _); rintro e0 w5 ⟨rfl, h5⟩; subst h5))
    have hE : Arr _ w.heap.size 27 [.slice none 0 0, .int .i64 9] := ((HA1.out.put 0 (.slice none 0 0)).put 1 (.int .i64 9))
    exact bodyPost_ret (v := .agg #[.slice none 0 0, .int .i64 9]) (results_cell_row (P := Try.prog) Try.results9 _ _ w.heap.size 27 _ (0, 0) _ rfl hE Try.underlying27 rfl (by kernel_rfl)) rfl
      ⟨so_ill _ _ _, (HB1.out.setCell (p := ⟨w.heap.size, 0, none⟩) (Nat.le_refl _) _).setCell (p := ⟨w.heap.size, 1, none⟩) (Nat.le_refl _) _⟩
  rw [bnd_ok g1 hnf g3 h5]
  have h6 := (okB_iff.1 g2).1
  have hple := pos_le r xs
  obtain ⟨P, hP⟩ : ∃ P, posS r xs = P := ⟨_, rfl⟩
  rw [hP] at hple i1 ⊢
  have i5 := fun W g vb hO hY => impl_insert9 xs (newS r) n P g vb W hxn (by omega) (by omega) hO hY
  have HM : Hid (((xs.take P ++ [newS r]) ++ xs.drop P).length = n + 1) := Lib.hid (by simp only [List.length_append, List.length_take, List.length_drop, List.length_cons, List.length_nil]; omega)
  obtain ⟨R, hRR⟩ : ∃ R, (xs.take P ++ [newS r]) ++ xs.drop P = R := ⟨_, rfl⟩
  rw [hRR] at i5 HM ⊢
  obtain ⟨m5, hm5⟩ : ∃ m, n + 1 = m := ⟨_, rfl⟩
  rw [hm5] at i5 HM
  clear hm5
  rw [hxn] at i1 i3 h5 ⊢
  have q1 : ¬ ((n : Int) = 5) := by omega
  clear hR hw hr hK hC h0 g1 g2 g3 hres hnf hP hRR hxn h6 hple
  go_enter Try.func9, Try.ntmps9
  go_wp2_with (first
    | (go_at_call 57; go_fit (i1 _ (HR.out _ HB0.out)); rintro e w1 ⟨rfl, hb⟩; have HA1 := Lib.hid (arr9_on HA0.out hb); have HB1 := Lib.hid (HB0.out.trans (hb.mono HB0.out.size)); clear hb)
    | (go_at_call 58; go_fit (i2 _); rintro e0 w5 ⟨rfl, h5⟩; subst h5)
    | (go_at_call 60; go_fit (i3 _ (HR.out _ HB1.out)); rintro e w3 ⟨⟨rfl, hv⟩, hb⟩; have HA3 := Lib.hid (arr9_on HA1.out hb); have HB3 := Lib.hid (HB1.out.trans (hb.mono HB1.out.size)); have HV3 := Lib.hid hv; have hl1 := arr9_lt HA1.out; clear hb hv)
    | (go_at_call 61; have _ := HV3; go_fit (i4 w3 w3.heap.size rfl); rintro e w4 ⟨rfl, hb⟩; have HA4 := Lib.hid (arr9_on HA3.out hb); have HB4 := Lib.hid (HB3.out.trans (hb.mono HB3.out.size)); have HV4 := Lib.hid (HV3.out.on hb); clear hb)
    | (go_at_call 59; have _ := HV4; go_fit (i5 _ w1.heap.size w4.heap.size (HV4.out.alloc _) (Arr.fresh w4 42 (seC (newS r)))); rintro e w6 ⟨⟨q6, k6, rfl, hv⟩, hb⟩; have HV6 := Lib.hid hv; have HA6 : Hid (Arr w6 w.heap.size 27 [.slice none 0 0, .int .i64 0]) := Lib.hid ((hb.block _ hl1).trans (arr9_on HA4.out ((Below.refl _ _).alloc (Nat.le_refl _) _))); have HB6 : Hid (Below w.heap.size w w6) := Lib.hid ((HB4.out.alloc HB4.out.size _).trans (hb.mono (Nat.le_of_lt hl1))); clear hv hb; obtain ⟨⟨c0, c1⟩, f0, f1⟩ := arr9_two HA6.out))
  have hv6 := HV6.out
  obtain rfl := HM.out
  obtain ⟨hE, hO2, hBl⟩ := pass9 (W2 := w) (R := ⟨R, 0⟩) HA6.out HB6.out (Nat.le_refl _) hl1 hv6
  exact bodyPost_ret (v := .agg #[.slice q6 R.length k6, .int .i64 0]) (results_cell_row (P := Try.prog) Try.results9 _ _ w.heap.size 27 _ (0, 0) _ rfl hE Try.underlying27 rfl (by kernel_rfl)) rfl
    ⟨⟨q6, k6, rfl, hO2⟩, hBl⟩
end Go.Proofs.Ytkdljhmenejckaa
