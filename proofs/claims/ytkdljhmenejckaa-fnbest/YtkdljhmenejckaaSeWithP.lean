/- What spec.Present answers. -/
import Derived.Test.YtkdljhmenejckaaSeWithS
namespace Go.Proofs.Ytkdljhmenejckaa
set_option linter.unusedSimpArgs false
set_option linter.unusedVariables false
open Go.RowKit Go.Joins

theorem pres_size {xs : List SeL} {r : ByteArray} {p : Int} {s : ByteArray} (h : 400 < xs.length ∨ 20000 < r.size ∨ 20000 < s.size) : presR xs r p s = illS 2 := by
  unfold presR
  by_cases h1 : 20000 < s.size
  · rw [if_pos h1]
  · rw [if_neg h1]
    unfold withR
    rw [if_pos (show 400 < xs.length ∨ 20000 < r.size by omega)]
theorem pres_form {xs : List SeL} {r : ByteArray} {p : Int} {s : ByteArray} (h : ¬ (400 < xs.length ∨ 20000 < r.size ∨ 20000 < s.size)) (h2 : okB xs = false) : presR xs r p s = illS 1 := by
  unfold presR
  rw [if_neg (by omega)]
  unfold withR
  rw [if_neg (show ¬ (400 < xs.length ∨ 20000 < r.size) by omega), if_pos h2]
theorem pres_none {xs : List SeL} {r : ByteArray} {p : Int} {s : ByteArray} (h : ¬ (400 < xs.length ∨ 20000 < r.size ∨ 20000 < s.size)) (h2 : okB xs = true) (h3 : hereB r xs = false) : presR xs r p s = illS 6 := by
  unfold presR
  rw [if_neg (by omega)]
  unfold withR
  rw [if_neg (show ¬ (400 < xs.length ∨ 20000 < r.size) by omega), if_neg (by rw [h2]; decide), if_pos h3]
theorem se_pres {r : ByteArray} {p : Int} {s : ByteArray} (h : resB r = true) : seB ⟨r, true, p, s⟩ = ((decide (-128 ≤ p) && decide (p ≤ 127)) && showB s) := by
  unfold seB
  dsimp only
  rw [h]
  simp
theorem pres_bad {xs : List SeL} {r : ByteArray} {p : Int} {s : ByteArray} (h : ¬ (400 < xs.length ∨ 20000 < r.size ∨ 20000 < s.size)) (h2 : okB xs = true) (h3 : hereB r xs = true) (h4 : ((decide (-128 ≤ p) && decide (p ≤ 127)) && showB s) = false) : presR xs r p s = illS 1 := by
  unfold presR
  rw [if_neg (by omega)]
  unfold withR
  rw [if_neg (show ¬ (400 < xs.length ∨ 20000 < r.size) by omega), if_neg (by rw [h2]; decide), if_neg (show ¬ hereB r xs = false by rw [h3]; decide), if_pos (by rw [se_pres (here_res h2 h3)]; exact h4)]
theorem pres_set {xs : List SeL} {r : ByteArray} {p : Int} {s : ByteArray} (h : ¬ (400 < xs.length ∨ 20000 < r.size ∨ 20000 < s.size)) (h2 : okB xs = true) (h3 : hereB r xs = true) (h4 : ((decide (-128 ≤ p) && decide (p ≤ 127)) && showB s) = true) : presR xs r p s = setR xs ⟨r, true, p, s⟩ := by
  unfold presR
  rw [if_neg (by omega)]
  exact set_with (show ¬ (400 < xs.length ∨ 20000 < r.size) by omega) h2 (fun _ => by rw [se_pres (here_res h2 h3)]; exact h4)
set_option maxRecDepth 100000 in
set_option maxHeartbeats 4000000 in
theorem spec_present (xs : List SeL) (r : ByteArray) (pr : Int) (s : ByteArray) (p : Option Addr) (c B0 : Nat) (w : World) (hn : xs.length ≤ 1048576) (hr : r.size ≤ 1048576) (hs : s.size ≤ 1048576) (hw : ∀ x ∈ xs, x.r.size ≤ 1048576 ∧ x.s.size ≤ 1048576) (hO : OwnC seC w B0 42 4 (.slice p xs.length c) xs) :
    Calls Try.prog 19 #[.slice p xs.length c, .string r, .int .i64 pr, .string s] w fun e w' => SoIs w.heap.size (presR xs r pr s) e w' ∧ Below w.heap.size w w' := by
  have HA0 : Hid (Arr (w.alloc (.cells #[.slice none 0 0, .int .i64 0] 27)) w.heap.size 27 [.slice none 0 0, .int .i64 0]) := Lib.hid (Arr.fresh w _ [.slice none 0 0, .int .i64 0])
  have HB0 : Hid (Below w.heap.size w (w.alloc (.cells #[.slice none 0 0, .int .i64 0] 27))) := Lib.hid ((Below.refl _ _).alloc (Nat.le_refl _) _)
  have HO := Lib.hid (fun W (h : Below w.heap.size w W) => hO.on h)
  have i0 := fun code W => spec_ill9 code W
  have i1 := fun W h => spec_seright xs p c W hn (fun x hx => by have := (hw x hx).1; unfold maxLen; omega) h
  have i2 := fun W (hk : okB xs = true) h => spec_at9 xs r p c W hn (okB_iff.1 hk).2.1 h
  have i3 := fun W => spec_is9 pr (-128) 127 W
  have i4 := fun W => spec_show9 s W
  have i5 := fun W (hk : okB xs = true) h => spec_set9 xs ⟨r, true, pr, s⟩ p c B0 W (okB_iff.1 hk).1 (okB_iff.1 hk).2.1 h
  obtain ⟨n, hxn⟩ : ∃ n, xs.length = n := ⟨_, rfl⟩
  by_cases h1 : 400 < xs.length ∨ 20000 < r.size ∨ 20000 < s.size
  · rw [pres_size h1]
    rw [hxn] at h1 hn ⊢
    clear hO hw i1 i2 i3 i4 i5 hxn
    by_cases h2 : 400 < n
    · clear h1
      go_enter Try.func19, Try.ntmps19
      go_wp2_with (first
        | (go_at_call 64; go_fit (i0 _ _); rintro e0 w9 ⟨rfl, hb⟩; have HA9 := Lib.hid (arr9_on HA0.out hb); have HB9 := Lib.hid (HB0.out.trans (hb.mono HB0.out.size)); clear hb; obtain ⟨⟨c0, c1⟩, k0, k1⟩ := arr9_two HA9.out))
      have hE : Arr _ w.heap.size 27 [.slice none 0 0, .int .i64 2] := ((HA9.out.put 0 (.slice none 0 0)).put 1 (.int .i64 2))
      exact bodyPost_ret (v := .agg #[.slice none 0 0, .int .i64 2]) (results_cell_row (P := Try.prog) Try.results19 _ _ w.heap.size 27 _ (0, 0) _ rfl hE Try.underlying27 rfl (by kernel_rfl)) rfl
        ⟨so_ill _ _ _, (HB9.out.setCell (p := ⟨w.heap.size, 0, none⟩) (Nat.le_refl _) _).setCell (p := ⟨w.heap.size, 1, none⟩) (Nat.le_refl _) _⟩
    · by_cases h3 : 20000 < r.size
      · clear h1
        go_enter Try.func19, Try.ntmps19
        go_wp2_with (first
          | (go_at_call 64; go_fit (i0 _ _); rintro e0 w9 ⟨rfl, hb⟩; have HA9 := Lib.hid (arr9_on HA0.out hb); have HB9 := Lib.hid (HB0.out.trans (hb.mono HB0.out.size)); clear hb; obtain ⟨⟨c0, c1⟩, k0, k1⟩ := arr9_two HA9.out))
        have hE : Arr _ w.heap.size 27 [.slice none 0 0, .int .i64 2] := ((HA9.out.put 0 (.slice none 0 0)).put 1 (.int .i64 2))
        exact bodyPost_ret (v := .agg #[.slice none 0 0, .int .i64 2]) (results_cell_row (P := Try.prog) Try.results19 _ _ w.heap.size 27 _ (0, 0) _ rfl hE Try.underlying27 rfl (by kernel_rfl)) rfl
          ⟨so_ill _ _ _, (HB9.out.setCell (p := ⟨w.heap.size, 0, none⟩) (Nat.le_refl _) _).setCell (p := ⟨w.heap.size, 1, none⟩) (Nat.le_refl _) _⟩
      · have h4 : 20000 < s.size := by omega
        clear h1
        go_enter Try.func19, Try.ntmps19
        go_wp2_with (first
          | (go_at_call 64; go_fit (i0 _ _); rintro e0 w9 ⟨rfl, hb⟩; have HA9 := Lib.hid (arr9_on HA0.out hb); have HB9 := Lib.hid (HB0.out.trans (hb.mono HB0.out.size)); clear hb; obtain ⟨⟨c0, c1⟩, k0, k1⟩ := arr9_two HA9.out))
        have hE : Arr _ w.heap.size 27 [.slice none 0 0, .int .i64 2] := ((HA9.out.put 0 (.slice none 0 0)).put 1 (.int .i64 2))
        exact bodyPost_ret (v := .agg #[.slice none 0 0, .int .i64 2]) (results_cell_row (P := Try.prog) Try.results19 _ _ w.heap.size 27 _ (0, 0) _ rfl hE Try.underlying27 rfl (by kernel_rfl)) rfl
          ⟨so_ill _ _ _, (HB9.out.setCell (p := ⟨w.heap.size, 0, none⟩) (Nat.le_refl _) _).setCell (p := ⟨w.heap.size, 1, none⟩) (Nat.le_refl _) _⟩
  have g1 : ¬ 400 < n := by omega
  have g2 : ¬ 20000 < r.size := by omega
  have g3 : ¬ 20000 < s.size := by omega
  by_cases h2 : okB xs = true
  · replace i2 := fun W h => i2 W h2 h
    replace i5 := fun W h => i5 W h2 h
    rw [h2] at i1
    unfold whereI at i2
    by_cases h3 : hereB r xs = true
    · rw [if_pos h3] at i2
      obtain ⟨P, hP⟩ : ∃ P, posS r xs = P := ⟨_, rfl⟩
      rw [hP] at i2
      have q1 : ¬ ((P : Int) < 0) := by omega
      obtain ⟨d, hd⟩ : ∃ b, (decide (-128 ≤ pr) && decide (pr ≤ 127)) = b := ⟨_, rfl⟩
      obtain ⟨f, hf⟩ : ∃ b, showB s = b := ⟨_, rfl⟩
      rw [hd] at i3
      rw [hf] at i4
      cases d
      · rw [pres_bad h1 h2 h3 (by rw [hd]; rfl)]
        rw [hxn] at hn i1 i2 HO ⊢
        clear hO hw hxn h1 h2 h3 hd hf hP i4 i5
        go_enter Try.func19, Try.ntmps19
        go_wp2_with (first
          | (go_at_call 28; go_fit (i1 _ (row_own9 (HO.out _ HB0.out))); rintro e0 w1 ⟨rfl, hb⟩; have HA1 := Lib.hid (arr9_on HA0.out hb); have HB1 := Lib.hid (HB0.out.trans (hb.mono HB0.out.size)); clear hb)
          | (go_at_call 66; go_fit (i2 _ (row_own9 (HO.out _ HB1.out))); rintro e0 w2 ⟨rfl, hb⟩; have HA2 := Lib.hid (arr9_on HA1.out hb); have HB2 := Lib.hid (HB1.out.trans (hb.mono HB1.out.size)); clear hb)
          | (go_at_call 68; go_fit (i3 _); rintro e0 wz ⟨rfl, hz⟩; subst hz)
          | (go_at_call 64; go_fit (i0 _ _); rintro e0 w9 ⟨rfl, hb⟩; have HA9 := Lib.hid (arr9_on HA2.out hb); have HB9 := Lib.hid (HB2.out.trans (hb.mono HB2.out.size)); clear hb; obtain ⟨⟨c0, c1⟩, k0, k1⟩ := arr9_two HA9.out))
        have hE : Arr _ w.heap.size 27 [.slice none 0 0, .int .i64 1] := ((HA9.out.put 0 (.slice none 0 0)).put 1 (.int .i64 1))
        exact bodyPost_ret (v := .agg #[.slice none 0 0, .int .i64 1]) (results_cell_row (P := Try.prog) Try.results19 _ _ w.heap.size 27 _ (0, 0) _ rfl hE Try.underlying27 rfl (by kernel_rfl)) rfl
          ⟨so_ill _ _ _, (HB9.out.setCell (p := ⟨w.heap.size, 0, none⟩) (Nat.le_refl _) _).setCell (p := ⟨w.heap.size, 1, none⟩) (Nat.le_refl _) _⟩
      · cases f
        · rw [pres_bad h1 h2 h3 (by rw [hd, hf]; rfl)]
          rw [hxn] at hn i1 i2 HO ⊢
          clear hO hw hxn h1 h2 h3 hd hf hP i5
          go_enter Try.func19, Try.ntmps19
          go_wp2_with (first
            | (go_at_call 28; go_fit (i1 _ (row_own9 (HO.out _ HB0.out))); rintro e0 w1 ⟨rfl, hb⟩; have HA1 := Lib.hid (arr9_on HA0.out hb); have HB1 := Lib.hid (HB0.out.trans (hb.mono HB0.out.size)); clear hb)
            | (go_at_call 66; go_fit (i2 _ (row_own9 (HO.out _ HB1.out))); rintro e0 w2 ⟨rfl, hb⟩; have HA2 := Lib.hid (arr9_on HA1.out hb); have HB2 := Lib.hid (HB1.out.trans (hb.mono HB1.out.size)); clear hb)
            | (go_at_call 68; go_fit (i3 _); rintro e0 wz ⟨rfl, hz⟩; subst hz)
            | (go_at_call 69; have _ := HA2; go_fit (i4 _); rintro e0 w4 ⟨rfl, hb⟩; have HA4 := Lib.hid (arr9_on HA2.out hb); have HB4 := Lib.hid (HB2.out.trans (hb.mono HB2.out.size)); clear hb)
            | (go_at_call 64; go_fit (i0 _ _); rintro e0 w9 ⟨rfl, hb⟩; have HA9 := Lib.hid (arr9_on HA4.out hb); have HB9 := Lib.hid (HB4.out.trans (hb.mono HB4.out.size)); clear hb; obtain ⟨⟨c0, c1⟩, k0, k1⟩ := arr9_two HA9.out))
          have hE : Arr _ w.heap.size 27 [.slice none 0 0, .int .i64 1] := ((HA9.out.put 0 (.slice none 0 0)).put 1 (.int .i64 1))
          exact bodyPost_ret (v := .agg #[.slice none 0 0, .int .i64 1]) (results_cell_row (P := Try.prog) Try.results19 _ _ w.heap.size 27 _ (0, 0) _ rfl hE Try.underlying27 rfl (by kernel_rfl)) rfl
            ⟨so_ill _ _ _, (HB9.out.setCell (p := ⟨w.heap.size, 0, none⟩) (Nat.le_refl _) _).setCell (p := ⟨w.heap.size, 1, none⟩) (Nat.le_refl _) _⟩
        · rw [pres_set h1 h2 h3 (by rw [hd, hf]; rfl)]
          obtain ⟨R, hRR⟩ : ∃ R, setR xs ⟨r, true, pr, s⟩ = R := ⟨_, rfl⟩
          rw [hRR] at i5 ⊢
          unfold seV at i5
          dsimp only at i5
          rw [hxn] at hn i1 i2 i5 HO ⊢
          clear hO hw hxn h1 h2 h3 hd hf hP hRR
          go_enter Try.func19, Try.ntmps19
          go_wp2_with (first
            | (go_at_call 28; go_fit (i1 _ (row_own9 (HO.out _ HB0.out))); rintro e0 w1 ⟨rfl, hb⟩; have HA1 := Lib.hid (arr9_on HA0.out hb); have HB1 := Lib.hid (HB0.out.trans (hb.mono HB0.out.size)); clear hb)
            | (go_at_call 66; go_fit (i2 _ (row_own9 (HO.out _ HB1.out))); rintro e0 w2 ⟨rfl, hb⟩; have HA2 := Lib.hid (arr9_on HA1.out hb); have HB2 := Lib.hid (HB1.out.trans (hb.mono HB1.out.size)); clear hb)
            | (go_at_call 68; go_fit (i3 _); rintro e0 wz ⟨rfl, hz⟩; subst hz)
            | (go_at_call 69; have _ := HA2; go_fit (i4 _); rintro e0 w4 ⟨rfl, hb⟩; have HA4 := Lib.hid (arr9_on HA2.out hb); have HB4 := Lib.hid (HB2.out.trans (hb.mono HB2.out.size)); clear hb)
            | (go_at_call 70; go_fit (i5 _ (HO.out _ HB4.out)); rintro e0 w5 ⟨⟨q, k, rfl, hv⟩, hb⟩; have HV := Lib.hid hv; have HA5 := Lib.hid (arr9_on HA4.out hb); have HB5 := Lib.hid (HB4.out.trans (hb.mono HB4.out.size)); have hlt := arr9_lt HA4.out; clear hb hv; obtain ⟨⟨c0, c1⟩, k0, k1⟩ := arr9_two HA5.out))
          obtain ⟨hE, hO2, hBl⟩ := pass9 (W2 := w) HA5.out HB5.out (Nat.le_refl _) hlt HV.out
          exact bodyPost_ret (v := .agg #[.slice q R.l.length k, .int .i64 R.c]) (results_cell_row (P := Try.prog) Try.results19 _ _ w.heap.size 27 _ (0, 0) _ rfl hE Try.underlying27 rfl (by kernel_rfl)) rfl
            ⟨⟨q, k, rfl, hO2⟩, hBl⟩
    · rw [if_neg h3] at i2
      rw [pres_none h1 h2 (by simpa using h3)]
      rw [hxn] at hn i1 i2 HO ⊢
      clear hO hw hxn h1 h2 h3 i3 i4 i5
      go_enter Try.func19, Try.ntmps19
      go_wp2_with (first
        | (go_at_call 28; go_fit (i1 _ (row_own9 (HO.out _ HB0.out))); rintro e0 w1 ⟨rfl, hb⟩; have HA1 := Lib.hid (arr9_on HA0.out hb); have HB1 := Lib.hid (HB0.out.trans (hb.mono HB0.out.size)); clear hb)
        | (go_at_call 66; go_fit (i2 _ (row_own9 (HO.out _ HB1.out))); rintro e0 w2 ⟨rfl, hb⟩; have HA2 := Lib.hid (arr9_on HA1.out hb); have HB2 := Lib.hid (HB1.out.trans (hb.mono HB1.out.size)); clear hb)
        | (go_at_call 64; go_fit (i0 _ _); rintro e0 w9 ⟨rfl, hb⟩; have HA9 := Lib.hid (arr9_on HA2.out hb); have HB9 := Lib.hid (HB2.out.trans (hb.mono HB2.out.size)); clear hb; obtain ⟨⟨c0, c1⟩, k0, k1⟩ := arr9_two HA9.out))
      have hE : Arr _ w.heap.size 27 [.slice none 0 0, .int .i64 6] := ((HA9.out.put 0 (.slice none 0 0)).put 1 (.int .i64 6))
      exact bodyPost_ret (v := .agg #[.slice none 0 0, .int .i64 6]) (results_cell_row (P := Try.prog) Try.results19 _ _ w.heap.size 27 _ (0, 0) _ rfl hE Try.underlying27 rfl (by kernel_rfl)) rfl
        ⟨so_ill _ _ _, (HB9.out.setCell (p := ⟨w.heap.size, 0, none⟩) (Nat.le_refl _) _).setCell (p := ⟨w.heap.size, 1, none⟩) (Nat.le_refl _) _⟩
  · rw [pres_form h1 (by simpa using h2)]
    rw [show okB xs = false by simpa using h2] at i1
    rw [hxn] at hn i1 HO ⊢
    clear hO hw i2 i3 i4 i5 hxn h1 h2
    go_enter Try.func19, Try.ntmps19
    go_wp2_with (first
      | (go_at_call 28; go_fit (i1 _ (row_own9 (HO.out _ HB0.out))); rintro e0 w1 ⟨rfl, hb⟩; have HA1 := Lib.hid (arr9_on HA0.out hb); have HB1 := Lib.hid (HB0.out.trans (hb.mono HB0.out.size)); clear hb)
      | (go_at_call 64; go_fit (i0 _ _); rintro e0 w9 ⟨rfl, hb⟩; have HA9 := Lib.hid (arr9_on HA1.out hb); have HB9 := Lib.hid (HB1.out.trans (hb.mono HB1.out.size)); clear hb; obtain ⟨⟨c0, c1⟩, k0, k1⟩ := arr9_two HA9.out))
    have hE : Arr _ w.heap.size 27 [.slice none 0 0, .int .i64 1] := ((HA9.out.put 0 (.slice none 0 0)).put 1 (.int .i64 1))
    exact bodyPost_ret (v := .agg #[.slice none 0 0, .int .i64 1]) (results_cell_row (P := Try.prog) Try.results19 _ _ w.heap.size 27 _ (0, 0) _ rfl hE Try.underlying27 rfl (by kernel_rfl)) rfl
      ⟨so_ill _ _ _, (HB9.out.setCell (p := ⟨w.heap.size, 0, none⟩) (Nat.le_refl _) _).setCell (p := ⟨w.heap.size, 1, none⟩) (Nat.le_refl _) _⟩
end Go.Proofs.Ytkdljhmenejckaa
