/- spec.DbOpen, spec.DbResult and spec.DbVerified. -/
import Derived.Test.YtkjkfcljejjpbaaDoorDbFnI
namespace Go.Proofs.YtkjkfcljejjpbaaDoor
set_option linter.unusedSimpArgs false
set_option linter.unusedVariables false
open Go.RowKit Go.Joins

theorem spec_ill (code : Int) (w : World) : Calls Tryd.prog 30 #[.int .i64 code] w fun e w' => e = .returned (.agg #[.string ⟨#[]⟩, .int .i64 0, .slice none 0 0, .int .i64 0, .int .i64 code]) ∧ Below w.heap.size w w' := by
  go_enter Tryd.func30, Tryd.ntmps30
  go_wp2
  have hA := Arr.fresh w 29 [.string ⟨#[]⟩, .int .i64 0, .slice none 0 0, .int .i64 0, .int .i64 code]
  exact bodyPost_ret (v := doV ⟨#[]⟩ 0 none 0 0 0 code) (results_cell_row (P := Tryd.prog) Tryd.results30 _ _ w.heap.size 29 _ (0, 0) _ rfl hA Tryd.underlying29 rfl (by kernel_rfl)) rfl ⟨rfl, (Below.refl _ _).alloc (Nat.le_refl _) _⟩
theorem OpB.other {w W : World} {cs : List Value} (h : OpB w W cs) {g : Nat} (hg : w.heap.size + 2 ≤ g) (i : Nat) (u : Value) : OpB w (W.setCell ⟨g, i, none⟩ u) cs :=
  ⟨arr_beside h.1 g i u (by omega), arr_beside h.2.1 g i u (by omega), h.2.2.setCell (p := ⟨g, i, none⟩) (by show w.heap.size ≤ g; omega) _⟩
/-- Besides a third box, with the new dialback, and the row of its peers. -/
def NwO (w W : World) (cs : List Value) (b : Nat) (d2 : ByteArray) (n2 : Int) (v2 : Value) (ps : List PrL) : Prop :=
  OpB w W cs ∧ Arr W b 25 [.string d2, .int .i64 n2, v2] ∧ OwnC prC W (w.heap.size + 2) 43 4 v2 ps ∧ w.heap.size + 2 ≤ b ∧ ∀ k, v2.ownBlock = some k → k ≠ b
theorem NwO.on {w W W2 : World} {cs : List Value} {b : Nat} {d2 : ByteArray} {n2 : Int} {v2 : Value} {ps : List PrL} (h : NwO w W cs b d2 n2 v2 ps) (hb : Below W.heap.size W W2) : NwO w W2 cs b d2 n2 v2 ps :=
  ⟨h.1.on hb, arr_below h.2.1 hb, h.2.2.1.on hb, h.2.2.2⟩
theorem nwo_start {w W : World} {cs : List Value} {d2 : ByteArray} {n2 : Int} {q : Option Addr} {m k : Nat} {ps : List PrL} (h : OpB w W cs) (ho : OwnC prC W (w.heap.size + 2) 43 4 (.slice q m k) ps) :
    NwO w (W.alloc (.cells #[.string d2, .int .i64 n2, .slice q m k] 25)) cs W.heap.size d2 n2 (.slice q m k) ps := by
  have hlt := arr_lt h.2.1
  refine ⟨h.on ((Below.refl _ _).alloc (Nat.le_refl _) _), Arr.fresh W _ [.string d2, .int .i64 n2, .slice q m k], ho.alloc _, by omega, fun j hj => ?_⟩
  have := own_lt ho j hj
  omega
theorem NwO.put1 {w W : World} {cs : List Value} {b : Nat} {d2 : ByteArray} {n2 : Int} {v2 : Value} {ps : List PrL} (h : NwO w W cs b d2 n2 v2 ps) (n3 : Int) : NwO w (W.setCell ⟨b, 1, none⟩ (.int .i64 n3)) cs b d2 n3 v2 ps := by
  refine ⟨h.1.other h.2.2.2.1 _ _, h.2.1.put 1 _, own_other h.2.2.1 (fun k hk => (h.2.2.2.2 k hk).symm), h.2.2.2⟩
theorem NwO.put2 {w W W2 : World} {cs : List Value} {b : Nat} {d2 : ByteArray} {n2 : Int} {v2 v3 : Value} {ps xs : List PrL} (h : NwO w W cs b d2 n2 v2 ps) (hg : W.grownBy W2 v2.ownBlock) (ho : OwnC prC W2 (w.heap.size + 2) 43 4 v3 xs) (hne : ∀ k, v3.ownBlock = some k → k ≠ b) :
    OpB w W2 cs ∧ NwO w (W2.setCell ⟨b, 2, none⟩ v3) cs b d2 n2 v3 xs := by
  have hlt := arr_lt h.2.1
  have hA : Arr W2 b 25 [.string d2, .int .i64 n2, v2] := (hg.block b hlt (fun e => h.2.2.2.2 b e.symm rfl)).trans h.2.1
  have hb : Below (w.heap.size + 2) W W2 := (Below.refl _ W).grown hg (by have := arr_lt h.1.2.1; omega) (own_base h.2.2.1)
  have h1 : OpB w W2 cs := ⟨(hb.block _ (by omega)).trans h.1.1, (hb.block _ (by omega)).trans h.1.2.1, h.1.2.2.trans (hb.mono (by omega))⟩
  exact ⟨h1, h1.other h.2.2.2.1 _ _, hA.put 2 _, own_other ho (fun k hk => (hne k hk).symm), h.2.2.2.1, hne⟩
set_option maxRecDepth 100000 in
set_option maxHeartbeats 1000000 in
theorem spec_open (d : ByteArray) (n : Int) (ps : List PrL) (p : Option Addr) (c B0 : Nat) (f : ByteArray) (w : World) (hd : d.size ≤ 1048576) (hl : ps.length ≤ 1048576) (hw : ∀ x ∈ ps, x.d.size ≤ 1048576 ∧ x.k.size ≤ 1048576) (hO : OwnC prC w B0 43 4 (.slice p ps.length c) ps) (hf : f.size ≤ 1048576) :
    Calls Tryd.prog 10 #[dbV d n p ps.length c, .string f] w fun e w' => DoIs w.heap.size (openR d n ps f) e w' ∧ Below w.heap.size w w' := by
  have i1 := fun W hR => spec_dbright d n ps p c W (by unfold maxLen; omega) hl (fun x hx => by have := hw x hx; unfold maxLen; omega) hR
  have i0 := fun code W => spec_ill code W
  have HR := Lib.hid (fun W (h : Below w.heap.size w W) => row_own (hO.on h))
  have HO := Lib.hid (fun W (h : Below w.heap.size w W) => hO.on h)
  have i2 := fun W => spec_dom5 f W (by unfold maxLen; omega)
  have i3 := fun W h => spec_dbcopy d n ps p c B0 W hl h
  have HS := Lib.hid (opb_start w (.string d) (.int .i64 n) (.slice p ps.length c))
  unfold openR
  by_cases h1 : 20000 < f.size
  · rw [if_pos h1]
    have h1' : (20000 : Int) < f.size := by omega
    clear hO hw i1 i2 i3 HR HO
    unfold dbV
    go_enter Tryd.func10, Tryd.ntmps10
    go_wp2_with (go_at_call 30; go_fit (i0 _ _); rintro e wz ⟨rfl, hb⟩; have HSz := Lib.hid (HS.out.on hb); clear hb; obtain ⟨⟨c0, c1, c2, c3, c4⟩, f0, f1, f2, f3, f4⟩ := arr_five HSz.out.2.1)
    exact bodyPost_ret (v := doV ⟨#[]⟩ 0 none 0 0 0 2) (results_cell_row (P := Tryd.prog) Tryd.results10 _ _ (w.heap.size + 1) 29 _ (0, 0) _ rfl (arr_put5 HSz.out.2.1 (.string ⟨#[]⟩) (.int .i64 0) (.slice none 0 0) (.int .i64 0) (.int .i64 2)) Tryd.underlying29 rfl (by kernel_rfl)) rfl ⟨do_err _ _ _, below_put5 HSz.out.2.2 (Nat.le_succ _) _ _ _ _ _⟩
  rw [if_neg h1]
  have h1' : ¬ (20000 : Int) < f.size := by omega
  cases h2 : dbB d n ps
  · rw [Bool.false_and, if_pos rfl]
    rw [h2] at i1
    clear hO hw i2 i3 HO h2
    unfold dbV at i1 ⊢
    go_enter Tryd.func10, Tryd.ntmps10
    go_wp2_with (first | (go_at_call 15; go_fit (i1 _ (HR.out _ HS.out.2.2)); rintro e w1 ⟨rfl, hb⟩; have HS1 := Lib.hid (HS.out.on hb); clear hb; obtain ⟨d0, d1, d2, _⟩ := arr_three HS1.out.1) | (go_at_call 30; go_fit (i0 _ _); rintro e wz ⟨rfl, hb⟩; have HSz := Lib.hid (HS1.out.on hb); clear hb; obtain ⟨⟨c0, c1, c2, c3, c4⟩, f0, f1, f2, f3, f4⟩ := arr_five HSz.out.2.1))
    exact bodyPost_ret (v := doV ⟨#[]⟩ 0 none 0 0 0 1) (results_cell_row (P := Tryd.prog) Tryd.results10 _ _ (w.heap.size + 1) 29 _ (0, 0) _ rfl (arr_put5 HSz.out.2.1 (.string ⟨#[]⟩) (.int .i64 0) (.slice none 0 0) (.int .i64 0) (.int .i64 1)) Tryd.underlying29 rfl (by kernel_rfl)) rfl ⟨do_err _ _ _, below_put5 HSz.out.2.2 (Nat.le_succ _) _ _ _ _ _⟩
  rw [h2] at i1
  obtain ⟨b1, b2, b3⟩ := db_bounds h2
  cases h3 : domB f
  · rw [Bool.and_false, if_pos rfl]
    rw [h3] at i2
    clear hO hw i3 HO h2 h3
    unfold dbV at i1 ⊢
    go_enter Tryd.func10, Tryd.ntmps10
    go_wp2_with (first | (go_at_call 15; go_fit (i1 _ (HR.out _ HS.out.2.2)); rintro e w1 ⟨rfl, hb⟩; have HS1 := Lib.hid (HS.out.on hb); clear hb; obtain ⟨d0, d1, d2, _⟩ := arr_three HS1.out.1) | (go_at_call 31; go_fit (i2 _); rintro e w' ⟨rfl, rfl⟩) | (go_at_call 30; go_fit (i0 _ _); rintro e wz ⟨rfl, hb⟩; have HSz := Lib.hid (HS1.out.on hb); clear hb; obtain ⟨⟨c0, c1, c2, c3, c4⟩, f0, f1, f2, f3, f4⟩ := arr_five HSz.out.2.1))
    exact bodyPost_ret (v := doV ⟨#[]⟩ 0 none 0 0 0 1) (results_cell_row (P := Tryd.prog) Tryd.results10 _ _ (w.heap.size + 1) 29 _ (0, 0) _ rfl (arr_put5 HSz.out.2.1 (.string ⟨#[]⟩) (.int .i64 0) (.slice none 0 0) (.int .i64 0) (.int .i64 1)) Tryd.underlying29 rfl (by kernel_rfl)) rfl ⟨do_err _ _ _, below_put5 HSz.out.2.2 (Nat.le_succ _) _ _ _ _ _⟩
  rw [h3] at i2
  rw [Bool.and_true, if_neg (fun e => by cases e)]
  clear h2 h3
  by_cases h4 : ps.length = 10 ∨ n = 1000000000
  · rw [if_pos h4]
    obtain ⟨N, hN⟩ : ∃ N, ps.length = N := ⟨_, rfl⟩
    have HN := Lib.hid hN
    rw [hN] at i1 HS h4 b3 ⊢
    clear hO hw i3 HO hl hN
    unfold dbV at i1 ⊢
    by_cases h5 : N = 10
    · have h5' : (10 : Int) ≤ (N : Int) := by omega
      clear h4 h5 b3
      go_enter Tryd.func10, Tryd.ntmps10
      go_wp2_with (first | (go_at_call 15; go_fit (i1 _ (HR.out _ HS.out.2.2)); rintro e w1 ⟨rfl, hb⟩; have HS1 := Lib.hid (HS.out.on hb); clear hb; obtain ⟨d0, d1, d2, _⟩ := arr_three HS1.out.1) | (go_at_call 31; go_fit (i2 _); rintro e w' ⟨rfl, rfl⟩) | (go_at_call 30; go_fit (i0 _ _); rintro e wz ⟨rfl, hb⟩; have HSz := Lib.hid (HS1.out.on hb); clear hb; obtain ⟨⟨c0, c1, c2, c3, c4⟩, f0, f1, f2, f3, f4⟩ := arr_five HSz.out.2.1))
      exact bodyPost_ret (v := doV ⟨#[]⟩ 0 none 0 0 0 9) (results_cell_row (P := Tryd.prog) Tryd.results10 _ _ (w.heap.size + 1) 29 _ (0, 0) _ rfl (arr_put5 HSz.out.2.1 (.string ⟨#[]⟩) (.int .i64 0) (.slice none 0 0) (.int .i64 0) (.int .i64 9)) Tryd.underlying29 rfl (by kernel_rfl)) rfl ⟨do_err _ _ _, below_put5 HSz.out.2.2 (Nat.le_succ _) _ _ _ _ _⟩
    · have h5' : ¬ (10 : Int) ≤ (N : Int) := by omega
      have h6' : (1000000000 : Int) ≤ n := by omega
      go_enter Tryd.func10, Tryd.ntmps10
      go_wp2_with (first | (go_at_call 15; go_fit (i1 _ (HR.out _ HS.out.2.2)); rintro e w1 ⟨rfl, hb⟩; have HS1 := Lib.hid (HS.out.on hb); clear hb; obtain ⟨d0, d1, d2, _⟩ := arr_three HS1.out.1) | (go_at_call 31; go_fit (i2 _); rintro e w' ⟨rfl, rfl⟩) | (go_at_call 30; go_fit (i0 _ _); rintro e wz ⟨rfl, hb⟩; have HSz := Lib.hid (HS1.out.on hb); clear hb; obtain ⟨⟨c0, c1, c2, c3, c4⟩, f0, f1, f2, f3, f4⟩ := arr_five HSz.out.2.1))
      exact bodyPost_ret (v := doV ⟨#[]⟩ 0 none 0 0 0 9) (results_cell_row (P := Tryd.prog) Tryd.results10 _ _ (w.heap.size + 1) 29 _ (0, 0) _ rfl (arr_put5 HSz.out.2.1 (.string ⟨#[]⟩) (.int .i64 0) (.slice none 0 0) (.int .i64 0) (.int .i64 9)) Tryd.underlying29 rfl (by kernel_rfl)) rfl ⟨do_err _ _ _, below_put5 HSz.out.2.2 (Nat.le_succ _) _ _ _ _ _⟩
  rw [if_neg h4]
  obtain ⟨N, hN⟩ : ∃ N, ps.length = N := ⟨_, rfl⟩
  have HN := Lib.hid hN
  rw [hN] at i1 i3 HS h4 b3 HO hl ⊢
  have h5' : ¬ (10 : Int) ≤ (N : Int) := by omega
  have h6' : ¬ (1000000000 : Int) ≤ n := by omega
  clear hO hw hN
  unfold dbV at i1 i3 ⊢
  go_enter Tryd.func10, Tryd.ntmps10
  go_wp2_with (first | (go_at_call 15; go_fit (i1 _ (HR.out _ HS.out.2.2)); rintro e w1 ⟨rfl, hb⟩; have HS1 := Lib.hid (HS.out.on hb); clear hb; obtain ⟨d0, d1, d2, _⟩ := arr_three HS1.out.1) | (go_at_call 31; go_fit (i2 _); rintro e w' ⟨rfl, rfl⟩) | (go_at_call 32; go_fit (i3 _ (HO.out _ HS1.out.2.2)); rintro e w3 ⟨⟨q, k, rfl, hv⟩, hb⟩; have HO3 := Lib.hid (HS1.out.on hb); have HN0 := Lib.hid (nwo_start (d2 := d) (n2 := n) HO3.out (hv.mono (B' := w.heap.size + 2) (by have := arr_lt HS1.out.2.1; omega))); have HN1 := Lib.hid (HN0.out.on ((Below.refl _ _).alloc (Nat.le_refl _) (.cells #[.string f, .int .i64 n, .int .i64 0, .string ⟨#[]⟩] 43))); have he := one_rowP (w3.alloc (.cells #[.string d, .int .i64 n, .slice q N k] 25)) f n; rw [World.size_alloc] at he; have HE1 := Lib.hid he; have hlt3 := arr_lt HO3.out.2.1; have hlt4 : w.heap.size < w3.heap.size := (by omega); clear hb hv he; obtain ⟨d0, d1, d2, _⟩ := arr_three HO3.out.1) | (at_builtin; refine wpList_app_rowP rfl _ _ rfl (w.heap.size + 2) _ ps rfl HN1.out.2.2.1 _ _ _ _ [zeroPr f n] rfl HE1.out (by rw [HN.out]; simp; omega) (by have := arr_lt HN1.out.1.2.1; omega) ?_; intro v' w' ho hg; obtain ⟨q2, k2, hv, _⟩ := ho.row prC_len; rw [List.length_append, HN.out] at hv; subst hv; have hA4 : Arr w' w3.heap.size 25 [.string d, .int .i64 n, .slice q N k] := (hg.block _ (arr_lt HN1.out.2.1) (fun e => HN1.out.2.2.2.2 _ e.symm rfl)).trans HN1.out.2.1; have hne := own_ne_box ho hA4 (by decide); have HP2 := Lib.hid (HN1.out.put2 hg ho hne); clear ho hg hne; have hz1 : ¬ (w.heap.size = w3.heap.size) := (by omega); have hz2 : ¬ (w3.heap.size = w.heap.size) := (by omega); have hz3 : ¬ (w.heap.size + 1 = w3.heap.size) := (by omega); have hz4 : ¬ (w3.heap.size = w.heap.size + 1) := (by omega); obtain ⟨x0, x1, x2, y0, y1, y2⟩ := arr_three hA4; obtain ⟨d0, d1, d2, _⟩ := arr_three HP2.out.1.1; obtain ⟨⟨c0, c1, c2, c3, c4⟩, f0, f1, f2, f3, f4⟩ := arr_five HP2.out.1.2.1))
  have h7 := HP2.out.2.put1 (n + 1)
  have hL : ∀ (j : Nat) (u : Value) (X : World), OwnC prC X (w.heap.size + 2) 43 4 (.slice q2 (N + 1) k2) (ps ++ [zeroPr f n]) → OwnC prC (X.setCell ⟨w.heap.size + 1, j, none⟩ u) (w.heap.size + 2) 43 4 (.slice q2 (N + 1) k2) (ps ++ [zeroPr f n]) := fun j u X hX => hX.low (a := ⟨w.heap.size + 1, j, none⟩) (by show w.heap.size + 1 < w.heap.size + 2; omega) u
  exact bodyPost_ret (v := doV d (n + 1) q2 (N + 1) k2 n 0) (results_cell_row (P := Tryd.prog) Tryd.results10 _ _ (w.heap.size + 1) 29 _ (0, 0) _ rfl (arr_put5 h7.1.2.1 (.string d) (.int .i64 (n + 1)) (.slice q2 (N + 1) k2) (.int .i64 n) (.int .i64 0)) Tryd.underlying29 rfl (by kernel_rfl)) rfl ⟨⟨q2, k2, by rw [show (ps ++ [zeroPr f n]).length = N + 1 by rw [List.length_append, HN.out]; rfl], by rw [show (ps ++ [zeroPr f n]).length = N + 1 by rw [List.length_append, HN.out]; rfl]; exact (hL _ _ _ (hL _ _ _ (hL _ _ _ (hL _ _ _ (hL _ _ _ h7.2.2.1))))).mono (by omega)⟩, below_put5 h7.1.2.2 (Nat.le_succ _) _ _ _ _ _⟩
set_option maxRecDepth 100000 in
set_option maxHeartbeats 1000000 in
theorem spec_result (d : ByteArray) (n : Int) (ps : List PrL) (p : Option Addr) (c B0 : Nat) (id : Int) (key : ByteArray) (w : World) (hd : d.size ≤ 1048576) (hl : ps.length ≤ 1048576) (hw : ∀ x ∈ ps, x.d.size ≤ 1048576 ∧ x.k.size ≤ 1048576) (hO : OwnC prC w B0 43 4 (.slice p ps.length c) ps) (hf : key.size ≤ 1048576) :
    Calls Tryd.prog 12 #[dbV d n p ps.length c, .int .i64 id, .string key] w fun e w' => DoIs w.heap.size (resultR d n ps id key) e w' ∧ Below w.heap.size w w' := by
  have i1 := fun W hR => spec_dbright d n ps p c W (by unfold maxLen; omega) hl (fun x hx => by have := hw x hx; unfold maxLen; omega) hR
  have i0 := fun code W => spec_ill code W
  have HR := Lib.hid (fun W (h : Below w.heap.size w W) => row_own (hO.on h))
  have HO := Lib.hid (fun W (h : Below w.heap.size w W) => hO.on h)
  have i2 := fun W hR => spec_peer d n ps p c id W hl hR
  have i3 := fun W h => spec_dbcopy d n ps p c B0 W hl h
  have HS := Lib.hid (opb_start w (.string d) (.int .i64 n) (.slice p ps.length c))
  unfold resultR
  by_cases h1 : 20000 < key.size
  · rw [if_pos h1]
    have h1' : (20000 : Int) < key.size := by omega
    clear hO hw i1 i2 i3 HR HO
    unfold dbV
    go_enter Tryd.func12, Tryd.ntmps12
    go_wp2_with (go_at_call 30; go_fit (i0 _ _); rintro e wz ⟨rfl, hb⟩; have HSz := Lib.hid (HS.out.on hb); clear hb; obtain ⟨⟨c0, c1, c2, c3, c4⟩, f0, f1, f2, f3, f4⟩ := arr_five HSz.out.2.1)
    exact bodyPost_ret (v := doV ⟨#[]⟩ 0 none 0 0 0 2) (results_cell_row (P := Tryd.prog) Tryd.results12 _ _ (w.heap.size + 1) 29 _ (0, 0) _ rfl (arr_put5 HSz.out.2.1 (.string ⟨#[]⟩) (.int .i64 0) (.slice none 0 0) (.int .i64 0) (.int .i64 2)) Tryd.underlying29 rfl (by kernel_rfl)) rfl ⟨do_err _ _ _, below_put5 HSz.out.2.2 (Nat.le_succ _) _ _ _ _ _⟩
  rw [if_neg h1]
  have h1' : ¬ (20000 : Int) < key.size := by omega
  cases h2 : dbB d n ps
  · rw [if_pos rfl]
    rw [h2] at i1
    clear hO hw i2 i3 HO h2
    unfold dbV at i1 ⊢
    go_enter Tryd.func12, Tryd.ntmps12
    go_wp2_with (first | (go_at_call 15; go_fit (i1 _ (HR.out _ HS.out.2.2)); rintro e w1 ⟨rfl, hb⟩; have HS1 := Lib.hid (HS.out.on hb); clear hb; obtain ⟨d0, d1, d2, _⟩ := arr_three HS1.out.1) | (go_at_call 30; go_fit (i0 _ _); rintro e wz ⟨rfl, hb⟩; have HSz := Lib.hid (HS1.out.on hb); clear hb; obtain ⟨⟨c0, c1, c2, c3, c4⟩, f0, f1, f2, f3, f4⟩ := arr_five HSz.out.2.1))
    exact bodyPost_ret (v := doV ⟨#[]⟩ 0 none 0 0 0 1) (results_cell_row (P := Tryd.prog) Tryd.results12 _ _ (w.heap.size + 1) 29 _ (0, 0) _ rfl (arr_put5 HSz.out.2.1 (.string ⟨#[]⟩) (.int .i64 0) (.slice none 0 0) (.int .i64 0) (.int .i64 1)) Tryd.underlying29 rfl (by kernel_rfl)) rfl ⟨do_err _ _ _, below_put5 HSz.out.2.2 (Nat.le_succ _) _ _ _ _ _⟩
  rw [h2] at i1
  obtain ⟨b1, b2, b3⟩ := db_bounds h2
  rw [if_neg (fun e => by cases e)]
  clear h2
  cases h3 : atK id ps with
  | none =>
    rw [atI_none h3] at i2
    dsimp only
    clear hO hw i3 HO h3
    unfold dbV at i1 i2 ⊢
    go_enter Tryd.func12, Tryd.ntmps12
    go_wp2_with (first | (go_at_call 15; go_fit (i1 _ (HR.out _ HS.out.2.2)); rintro e w1 ⟨rfl, hb⟩; have HS1 := Lib.hid (HS.out.on hb); clear hb; obtain ⟨d0, d1, d2, _⟩ := arr_three HS1.out.1) | (go_at_call 33; go_fit (i2 _ (HR.out _ HS1.out.2.2)); rintro e w2 ⟨rfl, hb⟩; have HS2 := Lib.hid (HS1.out.on hb); clear hb; obtain ⟨d0, d1, d2, _⟩ := arr_three HS2.out.1) | (go_at_call 30; go_fit (i0 _ _); rintro e wz ⟨rfl, hb⟩; have HSz := Lib.hid (HS2.out.on hb); clear hb; obtain ⟨⟨c0, c1, c2, c3, c4⟩, f0, f1, f2, f3, f4⟩ := arr_five HSz.out.2.1))
    exact bodyPost_ret (v := doV ⟨#[]⟩ 0 none 0 0 0 6) (results_cell_row (P := Tryd.prog) Tryd.results12 _ _ (w.heap.size + 1) 29 _ (0, 0) _ rfl (arr_put5 HSz.out.2.1 (.string ⟨#[]⟩) (.int .i64 0) (.slice none 0 0) (.int .i64 0) (.int .i64 6)) Tryd.underlying29 rfl (by kernel_rfl)) rfl ⟨do_err _ _ _, below_put5 HSz.out.2.2 (Nat.le_succ _) _ _ _ _ _⟩
  | some K =>
    obtain ⟨hK, _⟩ := atK_lt h3
    rw [atI_some h3] at i2
    dsimp only
    rw [getD_at hK]
    have hKi : ¬ ((K : Int) < 0) := by omega
    clear h3
    by_cases h4 : key.size = 0 ∨ 64 < key.size
    · rw [if_pos h4]
      clear hO hw i3 HO
      unfold dbV at i1 i2 ⊢
      by_cases h5 : key.size = 0
      · obtain ⟨n1, e1⟩ := empty_of h5
        go_enter Tryd.func12, Tryd.ntmps12
        go_wp2_with (first | (go_at_call 15; go_fit (i1 _ (HR.out _ HS.out.2.2)); rintro e w1 ⟨rfl, hb⟩; have HS1 := Lib.hid (HS.out.on hb); clear hb; obtain ⟨d0, d1, d2, _⟩ := arr_three HS1.out.1) | (go_at_call 33; go_fit (i2 _ (HR.out _ HS1.out.2.2)); rintro e w2 ⟨rfl, hb⟩; have HS2 := Lib.hid (HS1.out.on hb); clear hb; obtain ⟨d0, d1, d2, _⟩ := arr_three HS2.out.1) | (go_at_call 30; go_fit (i0 _ _); rintro e wz ⟨rfl, hb⟩; have HSz := Lib.hid (HS2.out.on hb); clear hb; obtain ⟨⟨c0, c1, c2, c3, c4⟩, f0, f1, f2, f3, f4⟩ := arr_five HSz.out.2.1))
        exact bodyPost_ret (v := doV ⟨#[]⟩ 0 none 0 0 0 1) (results_cell_row (P := Tryd.prog) Tryd.results12 _ _ (w.heap.size + 1) 29 _ (0, 0) _ rfl (arr_put5 HSz.out.2.1 (.string ⟨#[]⟩) (.int .i64 0) (.slice none 0 0) (.int .i64 0) (.int .i64 1)) Tryd.underlying29 rfl (by kernel_rfl)) rfl ⟨do_err _ _ _, below_put5 HSz.out.2.2 (Nat.le_succ _) _ _ _ _ _⟩
      · have n1 := ne_nil (s := key) (by omega)
        have e1 := not_empty (s := key) (by omega)
        have h5' : (64 : Int) < key.size := by omega
        go_enter Tryd.func12, Tryd.ntmps12
        go_wp2_with (first | (go_at_call 15; go_fit (i1 _ (HR.out _ HS.out.2.2)); rintro e w1 ⟨rfl, hb⟩; have HS1 := Lib.hid (HS.out.on hb); clear hb; obtain ⟨d0, d1, d2, _⟩ := arr_three HS1.out.1) | (go_at_call 33; go_fit (i2 _ (HR.out _ HS1.out.2.2)); rintro e w2 ⟨rfl, hb⟩; have HS2 := Lib.hid (HS1.out.on hb); clear hb; obtain ⟨d0, d1, d2, _⟩ := arr_three HS2.out.1) | (go_at_call 30; go_fit (i0 _ _); rintro e wz ⟨rfl, hb⟩; have HSz := Lib.hid (HS2.out.on hb); clear hb; obtain ⟨⟨c0, c1, c2, c3, c4⟩, f0, f1, f2, f3, f4⟩ := arr_five HSz.out.2.1))
        exact bodyPost_ret (v := doV ⟨#[]⟩ 0 none 0 0 0 1) (results_cell_row (P := Tryd.prog) Tryd.results12 _ _ (w.heap.size + 1) 29 _ (0, 0) _ rfl (arr_put5 HSz.out.2.1 (.string ⟨#[]⟩) (.int .i64 0) (.slice none 0 0) (.int .i64 0) (.int .i64 1)) Tryd.underlying29 rfl (by kernel_rfl)) rfl ⟨do_err _ _ _, below_put5 HSz.out.2.2 (Nat.le_succ _) _ _ _ _ _⟩
    rw [if_neg h4]
    have n1 := ne_nil (s := key) (by omega)
    have e1 := not_empty (s := key) (by omega)
    have h5' : ¬ (64 : Int) < key.size := by omega
    obtain ⟨g0, hp0, _, _, _, _, _⟩ := row4 (HR.out _ (Below.refl _ _)) hK
    subst hp0
    obtain ⟨x, hx⟩ : ∃ x, ps[K] = x := ⟨_, rfl⟩
    have HX := Lib.hid hx
    have HK := Lib.hid hK
    rw [hx]
    obtain ⟨N, hN⟩ : ∃ N, ps.length = N := ⟨_, rfl⟩
    have HN := Lib.hid hN
    rw [hN] at i1 i2 i3 HS HO hK hl b3 ⊢
    clear hO hw hN hx
    unfold dbV at i1 i2 i3 ⊢
    by_cases h6 : x.s ≠ 0
    · rw [if_pos h6]
      have h6' : (x.s == 0) = false := by rw [beq_eq_false_iff_ne]; exact h6
      clear i3 HO
      go_enter Tryd.func12, Tryd.ntmps12
      go_wp2_with (first | (go_at_call 15; go_fit (i1 _ (HR.out _ HS.out.2.2)); rintro e w1 ⟨rfl, hb⟩; have HS1 := Lib.hid (HS.out.on hb); clear hb; obtain ⟨d0, d1, d2, _⟩ := arr_three HS1.out.1) | (go_at_call 33; go_fit (i2 _ (HR.out _ HS1.out.2.2)); rintro e w2 ⟨rfl, hb⟩; have HS2 := Lib.hid (HS1.out.on hb); clear hb; obtain ⟨d0, d1, d2, _⟩ := arr_three HS2.out.1; obtain ⟨g9, hp9, hg0, r0, r1, r2, r3⟩ := row4 (HR.out _ HS2.out.2.2) HK.out; injection hp9 with hp9; injection hp9 with hp9; subst hp9; rw [HX.out] at r0 r1 r2 r3) | (go_at_call 30; go_fit (i0 _ _); rintro e wz ⟨rfl, hb⟩; have HSz := Lib.hid (HS2.out.on hb); clear hb; obtain ⟨⟨c0, c1, c2, c3, c4⟩, f0, f1, f2, f3, f4⟩ := arr_five HSz.out.2.1))
      exact bodyPost_ret (v := doV ⟨#[]⟩ 0 none 0 0 0 10) (results_cell_row (P := Tryd.prog) Tryd.results12 _ _ (w.heap.size + 1) 29 _ (0, 0) _ rfl (arr_put5 HSz.out.2.1 (.string ⟨#[]⟩) (.int .i64 0) (.slice none 0 0) (.int .i64 0) (.int .i64 10)) Tryd.underlying29 rfl (by kernel_rfl)) rfl ⟨do_err _ _ _, below_put5 HSz.out.2.2 (Nat.le_succ _) _ _ _ _ _⟩
    rw [if_neg h6]
    obtain h6' : x.s = 0 := by simpa using h6
    clear h6
    go_enter Tryd.func12, Tryd.ntmps12
    go_wp2_with (first | (go_at_call 15; go_fit (i1 _ (HR.out _ HS.out.2.2)); rintro e w1 ⟨rfl, hb⟩; have HS1 := Lib.hid (HS.out.on hb); clear hb; obtain ⟨d0, d1, d2, _⟩ := arr_three HS1.out.1) | (go_at_call 33; go_fit (i2 _ (HR.out _ HS1.out.2.2)); rintro e w2 ⟨rfl, hb⟩; have HS2 := Lib.hid (HS1.out.on hb); clear hb; obtain ⟨d0, d1, d2, _⟩ := arr_three HS2.out.1; obtain ⟨g9, hp9, hg0, r0, r1, r2, r3⟩ := row4 (HR.out _ HS2.out.2.2) HK.out; injection hp9 with hp9; injection hp9 with hp9; subst hp9; rw [HX.out] at r0 r1 r2 r3) | (go_at_call 32; go_fit (i3 _ (HO.out _ HS2.out.2.2)); rintro e w3 ⟨⟨q, k, rfl, hv⟩, hb⟩; have HO3 := Lib.hid (HS2.out.on hb); have hv2 := hv.mono (B' := w.heap.size + 2) (by have := arr_lt HS2.out.2.1; omega); obtain ⟨g, hq⟩ := own_some hv2 (by rw [HN.out]; omega); subst hq; have HV3 := Lib.hid hv2; have hgB := own_base hv2 g rfl; have hgl := own_lt hv2 g rfl; obtain ⟨⟨s0, s1, s2, s3⟩, s4, s5⟩ := own_cells hv2 HK.out; rw [HX.out] at s0 s1 s2 s3; have hlt3 := arr_lt HO3.out.2.1; clear hb hv hv2; have hz1 : ¬ (g = w.heap.size + 1) := (by omega); have hz2 : ¬ (w.heap.size + 1 = g) := (by omega); have hz3 : ¬ (g = w3.heap.size) := (by omega); have hz4 : ¬ (w3.heap.size = g) := (by omega); obtain ⟨⟨c0, c1, c2, c3, c4⟩, f0, f1, f2, f3, f4⟩ := arr_five HO3.out.2.1))
    have o0 := OwnC.set prC_len HV3.out K 2 HK.out (by decide) (u := .int .i64 1) (y := prS x 1) (by rw [HX.out]; rfl)
    have o1 := OwnC.set prC_len o0 K 3 (by rw [List.length_set]; exact HK.out) (by decide) (u := .string key) (y := prK x 1 key) (by rw [List.getElem_set_self]; rfl)
    rw [List.set_set] at o1
    have hB := ((HO3.out.other hgB (K * 4 + 2) (.int .i64 1)).other hgB (K * 4 + 3) (.string key))
    have hL : ∀ (j : Nat) (u : Value) (X : World), OwnC prC X (w.heap.size + 2) 43 4 (.slice (some ⟨g, 0, none⟩) N k) (ps.set K (prK x 1 key)) → OwnC prC (X.setCell ⟨w.heap.size + 1, j, none⟩ u) (w.heap.size + 2) 43 4 (.slice (some ⟨g, 0, none⟩) N k) (ps.set K (prK x 1 key)) := fun j u X hX => hX.low (a := ⟨w.heap.size + 1, j, none⟩) (by show w.heap.size + 1 < w.heap.size + 2; omega) u
    exact bodyPost_ret (v := doV d n (some ⟨g, 0, none⟩) N k 0 0) (results_cell_row (P := Tryd.prog) Tryd.results12 _ _ (w.heap.size + 1) 29 _ (0, 0) _ rfl (arr_alloc (arr_put5 hB.2.1 (.string d) (.int .i64 n) (.slice (some ⟨g, 0, none⟩) N k) (.int .i64 0) (.int .i64 0)) _) Tryd.underlying29 rfl (by kernel_rfl)) rfl ⟨⟨_, k, by rw [show (ps.set K (prK x 1 key)).length = N by rw [List.length_set, HN.out]], by rw [show (ps.set K (prK x 1 key)).length = N by rw [List.length_set, HN.out]]; exact ((hL _ _ _ (hL _ _ _ (hL _ _ _ (hL _ _ _ (hL _ _ _ o1))))).alloc _).mono (by omega)⟩, (below_put5 hB.2.2 (Nat.le_succ _) _ _ _ _ _).alloc (below_put5 hB.2.2 (Nat.le_succ _) _ _ _ _ _).size _⟩
set_option maxRecDepth 100000 in
set_option maxHeartbeats 1000000 in
theorem spec_verified (d : ByteArray) (n : Int) (ps : List PrL) (p : Option Addr) (c B0 : Nat) (id : Int) (good : Bool) (w : World) (hd : d.size ≤ 1048576) (hl : ps.length ≤ 1048576) (hw : ∀ x ∈ ps, x.d.size ≤ 1048576 ∧ x.k.size ≤ 1048576) (hO : OwnC prC w B0 43 4 (.slice p ps.length c) ps) :
    Calls Tryd.prog 13 #[dbV d n p ps.length c, .int .i64 id, .bool good] w fun e w' => DoIs w.heap.size (verifiedR d n ps id good) e w' ∧ Below w.heap.size w w' := by
  have i1 := fun W hR => spec_dbright d n ps p c W (by unfold maxLen; omega) hl (fun x hx => by have := hw x hx; unfold maxLen; omega) hR
  have i0 := fun code W => spec_ill code W
  have HR := Lib.hid (fun W (h : Below w.heap.size w W) => row_own (hO.on h))
  have HO := Lib.hid (fun W (h : Below w.heap.size w W) => hO.on h)
  have i2 := fun W hR => spec_peer d n ps p c id W hl hR
  have i3 := fun W h => spec_dbcopy d n ps p c B0 W hl h
  have HS := Lib.hid (opb_start w (.string d) (.int .i64 n) (.slice p ps.length c))
  unfold verifiedR
  cases h2 : dbB d n ps
  · rw [if_pos rfl]
    rw [h2] at i1
    clear hO hw i2 i3 HO h2
    unfold dbV at i1 ⊢
    go_enter Tryd.func13, Tryd.ntmps13
    go_wp2_with (first | (go_at_call 15; go_fit (i1 _ (HR.out _ HS.out.2.2)); rintro e w1 ⟨rfl, hb⟩; have HS1 := Lib.hid (HS.out.on hb); clear hb; obtain ⟨d0, d1, d2, _⟩ := arr_three HS1.out.1) | (go_at_call 30; go_fit (i0 _ _); rintro e wz ⟨rfl, hb⟩; have HSz := Lib.hid (HS1.out.on hb); clear hb; obtain ⟨⟨c0, c1, c2, c3, c4⟩, f0, f1, f2, f3, f4⟩ := arr_five HSz.out.2.1))
    exact bodyPost_ret (v := doV ⟨#[]⟩ 0 none 0 0 0 1) (results_cell_row (P := Tryd.prog) Tryd.results13 _ _ (w.heap.size + 1) 29 _ (0, 0) _ rfl (arr_put5 HSz.out.2.1 (.string ⟨#[]⟩) (.int .i64 0) (.slice none 0 0) (.int .i64 0) (.int .i64 1)) Tryd.underlying29 rfl (by kernel_rfl)) rfl ⟨do_err _ _ _, below_put5 HSz.out.2.2 (Nat.le_succ _) _ _ _ _ _⟩
  rw [h2] at i1
  obtain ⟨b1, b2, b3⟩ := db_bounds h2
  rw [if_neg (fun e => by cases e)]
  clear h2
  cases h3 : atK id ps with
  | none =>
    rw [atI_none h3] at i2
    dsimp only
    clear hO hw i3 HO h3
    unfold dbV at i1 i2 ⊢
    go_enter Tryd.func13, Tryd.ntmps13
    go_wp2_with (first | (go_at_call 15; go_fit (i1 _ (HR.out _ HS.out.2.2)); rintro e w1 ⟨rfl, hb⟩; have HS1 := Lib.hid (HS.out.on hb); clear hb; obtain ⟨d0, d1, d2, _⟩ := arr_three HS1.out.1) | (go_at_call 33; go_fit (i2 _ (HR.out _ HS1.out.2.2)); rintro e w2 ⟨rfl, hb⟩; have HS2 := Lib.hid (HS1.out.on hb); clear hb; obtain ⟨d0, d1, d2, _⟩ := arr_three HS2.out.1) | (go_at_call 30; go_fit (i0 _ _); rintro e wz ⟨rfl, hb⟩; have HSz := Lib.hid (HS2.out.on hb); clear hb; obtain ⟨⟨c0, c1, c2, c3, c4⟩, f0, f1, f2, f3, f4⟩ := arr_five HSz.out.2.1))
    exact bodyPost_ret (v := doV ⟨#[]⟩ 0 none 0 0 0 6) (results_cell_row (P := Tryd.prog) Tryd.results13 _ _ (w.heap.size + 1) 29 _ (0, 0) _ rfl (arr_put5 HSz.out.2.1 (.string ⟨#[]⟩) (.int .i64 0) (.slice none 0 0) (.int .i64 0) (.int .i64 6)) Tryd.underlying29 rfl (by kernel_rfl)) rfl ⟨do_err _ _ _, below_put5 HSz.out.2.2 (Nat.le_succ _) _ _ _ _ _⟩
  | some K =>
    obtain ⟨hK, _⟩ := atK_lt h3
    rw [atI_some h3] at i2
    dsimp only
    rw [getD_at hK]
    have hKi : ¬ ((K : Int) < 0) := by omega
    clear h3
    obtain ⟨g0, hp0, _, _, _, _, _⟩ := row4 (HR.out _ (Below.refl _ _)) hK
    subst hp0
    obtain ⟨x, hx⟩ : ∃ x, ps[K] = x := ⟨_, rfl⟩
    have HX := Lib.hid hx
    have HK := Lib.hid hK
    rw [hx]
    obtain ⟨N, hN⟩ : ∃ N, ps.length = N := ⟨_, rfl⟩
    have HN := Lib.hid hN
    rw [hN] at i1 i2 i3 HS HO hK hl b3 ⊢
    clear hO hw hN hx
    unfold dbV at i1 i2 i3 ⊢
    by_cases h6 : x.s ≠ 1
    · rw [if_pos h6]
      have h6' : (x.s == 1) = false := by rw [beq_eq_false_iff_ne]; exact h6
      clear i3 HO
      go_enter Tryd.func13, Tryd.ntmps13
      go_wp2_with (first | (go_at_call 15; go_fit (i1 _ (HR.out _ HS.out.2.2)); rintro e w1 ⟨rfl, hb⟩; have HS1 := Lib.hid (HS.out.on hb); clear hb; obtain ⟨d0, d1, d2, _⟩ := arr_three HS1.out.1) | (go_at_call 33; go_fit (i2 _ (HR.out _ HS1.out.2.2)); rintro e w2 ⟨rfl, hb⟩; have HS2 := Lib.hid (HS1.out.on hb); clear hb; obtain ⟨d0, d1, d2, _⟩ := arr_three HS2.out.1; obtain ⟨g9, hp9, hg0, r0, r1, r2, r3⟩ := row4 (HR.out _ HS2.out.2.2) HK.out; injection hp9 with hp9; injection hp9 with hp9; subst hp9; rw [HX.out] at r0 r1 r2 r3) | (go_at_call 30; go_fit (i0 _ _); rintro e wz ⟨rfl, hb⟩; have HSz := Lib.hid (HS2.out.on hb); clear hb; obtain ⟨⟨c0, c1, c2, c3, c4⟩, f0, f1, f2, f3, f4⟩ := arr_five HSz.out.2.1))
      exact bodyPost_ret (v := doV ⟨#[]⟩ 0 none 0 0 0 10) (results_cell_row (P := Tryd.prog) Tryd.results13 _ _ (w.heap.size + 1) 29 _ (0, 0) _ rfl (arr_put5 HSz.out.2.1 (.string ⟨#[]⟩) (.int .i64 0) (.slice none 0 0) (.int .i64 0) (.int .i64 10)) Tryd.underlying29 rfl (by kernel_rfl)) rfl ⟨do_err _ _ _, below_put5 HSz.out.2.2 (Nat.le_succ _) _ _ _ _ _⟩
    rw [if_neg h6]
    obtain h6' : x.s = 1 := by simpa using h6
    clear h6
    cases good
    · skip
      go_enter Tryd.func13, Tryd.ntmps13
      go_wp2_with (first | (go_at_call 15; go_fit (i1 _ (HR.out _ HS.out.2.2)); rintro e w1 ⟨rfl, hb⟩; have HS1 := Lib.hid (HS.out.on hb); clear hb; obtain ⟨d0, d1, d2, _⟩ := arr_three HS1.out.1) | (go_at_call 33; go_fit (i2 _ (HR.out _ HS1.out.2.2)); rintro e w2 ⟨rfl, hb⟩; have HS2 := Lib.hid (HS1.out.on hb); clear hb; obtain ⟨d0, d1, d2, _⟩ := arr_three HS2.out.1; obtain ⟨g9, hp9, hg0, r0, r1, r2, r3⟩ := row4 (HR.out _ HS2.out.2.2) HK.out; injection hp9 with hp9; injection hp9 with hp9; subst hp9; rw [HX.out] at r0 r1 r2 r3) | (go_at_call 32; go_fit (i3 _ (HO.out _ HS2.out.2.2)); rintro e w3 ⟨⟨q, k, rfl, hv⟩, hb⟩; have HO3 := Lib.hid (HS2.out.on hb); have hv2 := hv.mono (B' := w.heap.size + 2) (by have := arr_lt HS2.out.2.1; omega); obtain ⟨g, hq⟩ := own_some hv2 (by rw [HN.out]; omega); subst hq; have HV3 := Lib.hid hv2; have hgB := own_base hv2 g rfl; have hgl := own_lt hv2 g rfl; obtain ⟨⟨s0, s1, s2, s3⟩, s4, s5⟩ := own_cells hv2 HK.out; rw [HX.out] at s0 s1 s2 s3; have hlt3 := arr_lt HO3.out.2.1; clear hb hv hv2; have hz1 : ¬ (g = w.heap.size + 1) := (by omega); have hz2 : ¬ (w.heap.size + 1 = g) := (by omega); have hz3 : ¬ (g = w3.heap.size) := (by omega); have hz4 : ¬ (w3.heap.size = g) := (by omega); obtain ⟨⟨c0, c1, c2, c3, c4⟩, f0, f1, f2, f3, f4⟩ := arr_five HO3.out.2.1))
      have o0 := OwnC.set prC_len HV3.out K 2 HK.out (by decide) (u := .int .i64 3) (y := prS x 3) (by rw [HX.out]; rfl)
      have hB := (HO3.out.other hgB (K * 4 + 2) (.int .i64 3))
      have hL : ∀ (j : Nat) (u : Value) (X : World), OwnC prC X (w.heap.size + 2) 43 4 (.slice (some ⟨g, 0, none⟩) N k) (ps.set K (prS x 3)) → OwnC prC (X.setCell ⟨w.heap.size + 1, j, none⟩ u) (w.heap.size + 2) 43 4 (.slice (some ⟨g, 0, none⟩) N k) (ps.set K (prS x 3)) := fun j u X hX => hX.low (a := ⟨w.heap.size + 1, j, none⟩) (by show w.heap.size + 1 < w.heap.size + 2; omega) u
      exact bodyPost_ret (v := doV d n (some ⟨g, 0, none⟩) N k 0 0) (results_cell_row (P := Tryd.prog) Tryd.results13 _ _ (w.heap.size + 1) 29 _ (0, 0) _ rfl (arr_alloc (arr_put5 hB.2.1 (.string d) (.int .i64 n) (.slice (some ⟨g, 0, none⟩) N k) (.int .i64 0) (.int .i64 0)) _) Tryd.underlying29 rfl (by kernel_rfl)) rfl ⟨⟨_, k, by rw [show (ps.set K (prS x 3)).length = N by rw [List.length_set, HN.out]], by rw [show (ps.set K (prS x 3)).length = N by rw [List.length_set, HN.out]]; exact ((hL _ _ _ (hL _ _ _ (hL _ _ _ (hL _ _ _ (hL _ _ _ o0))))).alloc _).mono (by omega)⟩, (below_put5 hB.2.2 (Nat.le_succ _) _ _ _ _ _).alloc (below_put5 hB.2.2 (Nat.le_succ _) _ _ _ _ _).size _⟩
    · skip
      go_enter Tryd.func13, Tryd.ntmps13
      go_wp2_with (first | (go_at_call 15; go_fit (i1 _ (HR.out _ HS.out.2.2)); rintro e w1 ⟨rfl, hb⟩; have HS1 := Lib.hid (HS.out.on hb); clear hb; obtain ⟨d0, d1, d2, _⟩ := arr_three HS1.out.1) | (go_at_call 33; go_fit (i2 _ (HR.out _ HS1.out.2.2)); rintro e w2 ⟨rfl, hb⟩; have HS2 := Lib.hid (HS1.out.on hb); clear hb; obtain ⟨d0, d1, d2, _⟩ := arr_three HS2.out.1; obtain ⟨g9, hp9, hg0, r0, r1, r2, r3⟩ := row4 (HR.out _ HS2.out.2.2) HK.out; injection hp9 with hp9; injection hp9 with hp9; subst hp9; rw [HX.out] at r0 r1 r2 r3) | (go_at_call 32; go_fit (i3 _ (HO.out _ HS2.out.2.2)); rintro e w3 ⟨⟨q, k, rfl, hv⟩, hb⟩; have HO3 := Lib.hid (HS2.out.on hb); have hv2 := hv.mono (B' := w.heap.size + 2) (by have := arr_lt HS2.out.2.1; omega); obtain ⟨g, hq⟩ := own_some hv2 (by rw [HN.out]; omega); subst hq; have HV3 := Lib.hid hv2; have hgB := own_base hv2 g rfl; have hgl := own_lt hv2 g rfl; obtain ⟨⟨s0, s1, s2, s3⟩, s4, s5⟩ := own_cells hv2 HK.out; rw [HX.out] at s0 s1 s2 s3; have hlt3 := arr_lt HO3.out.2.1; clear hb hv hv2; have hz1 : ¬ (g = w.heap.size + 1) := (by omega); have hz2 : ¬ (w.heap.size + 1 = g) := (by omega); have hz3 : ¬ (g = w3.heap.size) := (by omega); have hz4 : ¬ (w3.heap.size = g) := (by omega); obtain ⟨⟨c0, c1, c2, c3, c4⟩, f0, f1, f2, f3, f4⟩ := arr_five HO3.out.2.1))
      have o0 := OwnC.set prC_len HV3.out K 2 HK.out (by decide) (u := .int .i64 3) (y := prS x 3) (by rw [HX.out]; rfl)
      have o1 := OwnC.set prC_len o0 K 2 (by rw [List.length_set]; exact HK.out) (by decide) (u := .int .i64 2) (y := prS x 2) (by rw [List.getElem_set_self]; rfl)
      rw [List.set_set] at o1
      have hB := ((HO3.out.other hgB (K * 4 + 2) (.int .i64 3)).other hgB (K * 4 + 2) (.int .i64 2))
      have hL : ∀ (j : Nat) (u : Value) (X : World), OwnC prC X (w.heap.size + 2) 43 4 (.slice (some ⟨g, 0, none⟩) N k) (ps.set K (prS x 2)) → OwnC prC (X.setCell ⟨w.heap.size + 1, j, none⟩ u) (w.heap.size + 2) 43 4 (.slice (some ⟨g, 0, none⟩) N k) (ps.set K (prS x 2)) := fun j u X hX => hX.low (a := ⟨w.heap.size + 1, j, none⟩) (by show w.heap.size + 1 < w.heap.size + 2; omega) u
      exact bodyPost_ret (v := doV d n (some ⟨g, 0, none⟩) N k 0 0) (results_cell_row (P := Tryd.prog) Tryd.results13 _ _ (w.heap.size + 1) 29 _ (0, 0) _ rfl (arr_alloc (arr_put5 hB.2.1 (.string d) (.int .i64 n) (.slice (some ⟨g, 0, none⟩) N k) (.int .i64 0) (.int .i64 0)) _) Tryd.underlying29 rfl (by kernel_rfl)) rfl ⟨⟨_, k, by rw [show (ps.set K (prS x 2)).length = N by rw [List.length_set, HN.out]], by rw [show (ps.set K (prS x 2)).length = N by rw [List.length_set, HN.out]]; exact ((hL _ _ _ (hL _ _ _ (hL _ _ _ (hL _ _ _ (hL _ _ _ o1))))).alloc _).mono (by omega)⟩, (below_put5 hB.2.2 (Nat.le_succ _) _ _ _ _ _).alloc (below_put5 hB.2.2 (Nat.le_succ _) _ _ _ _ _).size _⟩
end Go.Proofs.YtkjkfcljejjpbaaDoor
