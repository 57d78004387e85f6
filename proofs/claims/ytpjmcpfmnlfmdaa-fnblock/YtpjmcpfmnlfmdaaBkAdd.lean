/- What the document's BlockAdd and BlockDel answer. -/
import Derived.Test.YtpjmcpfmnlfmdaaBkSpec
namespace Go.Proofs.Ytpjmcpfmnlfmdaa
set_option linter.unusedSimpArgs false
set_option linter.unusedVariables false
open Go.RowKit Go.Joins

set_option maxRecDepth 100000 in
set_option maxHeartbeats 4000000 in
theorem spec_blockadd (xs : List ByteArray) (j : ByteArray) (p : Option Addr) (c B0 : Nat) (w : World) (hn : xs.length ≤ 1048576) (hj : j.size ≤ 1048576) (hw : ∀ x ∈ xs, x.size ≤ 1048576) (hO : OwnC strC w B0 9 1 (.slice p xs.length c) xs) :
    Calls Try.prog 14 #[.slice p xs.length c, .string j] w fun e w' => BoIs w.heap.size (addR xs j) e w' ∧ Below w.heap.size w w' := by
  have HA0 : Hid (Arr (w.alloc (.cells #[.slice none 0 0, .int .i64 0] 27)) w.heap.size 27 [.slice none 0 0, .int .i64 0]) := Lib.hid (Arr.fresh w _ [.slice none 0 0, .int .i64 0])
  have HB0 : Hid (Below w.heap.size w (w.alloc (.cells #[.slice none 0 0, .int .i64 0] 27))) := Lib.hid ((Below.refl _ _).alloc (Nat.le_refl _) _)
  have HO := Lib.hid (fun W (h : Below w.heap.size w W) => hO.on h)
  have i1 := fun W h => spec_bkright xs p c W hn (tx_two hw) h
  have i2 := fun W => spec_l11jid j W (by omega)
  have i3 := fun W (h : xs.length ≤ 1000) hr => spec_inX xs j p c W h hr
  obtain ⟨n, hxn⟩ : ∃ n, xs.length = n := ⟨_, rfl⟩
  have HN := Lib.hid hxn
  by_cases hs : 400 < xs.length ∨ 20000 < j.size
  · rw [show addR xs j = illB 2 by unfold addR; exact if_pos hs]
    rw [hxn] at hs ⊢
    clear hO hw i1 i2 i3 hxn hn
    by_cases h2 : 400 < n
    · clear hs
      go_enter Try.func14, Try.ntmps14
      go_wp2
      exact bodyPost_ret (v := .agg #[.slice none 0 0, .int .i64 2]) (results_cell_row (P := Try.prog) Try.results14 _ _ w.heap.size 27 _ (0, 0) _ rfl (Arr.fresh w _ [.slice none 0 0, .int .i64 2]) Try.underlying27 rfl (by kernel_rfl)) rfl
        ⟨bo_ill _ _ _, (Below.refl _ _).alloc (Nat.le_refl _) _⟩
    · have h3 : 20000 < j.size := by omega
      clear hs
      go_enter Try.func14, Try.ntmps14
      go_wp2
      exact bodyPost_ret (v := .agg #[.slice none 0 0, .int .i64 2]) (results_cell_row (P := Try.prog) Try.results14 _ _ w.heap.size 27 _ (0, 0) _ rfl (Arr.fresh w _ [.slice none 0 0, .int .i64 2]) Try.underlying27 rfl (by kernel_rfl)) rfl
        ⟨bo_ill _ _ _, (Below.refl _ _).alloc (Nat.le_refl _) _⟩
  have g1 : ¬ 400 < n := by omega
  have g2 : ¬ 20000 < j.size := by omega
  replace i3 := fun W hr => i3 W (by omega) hr
  cases hk : bkB xs
  · rw [show addR xs j = illB 1 by unfold addR; rw [if_neg hs, if_pos (.inl hk)]]
    rw [hk] at i1
    rw [hxn] at hn i1 i3 HO ⊢
    clear hO hw hxn hk hs
    go_enter Try.func14, Try.ntmps14
    go_wp2_with (first
      | (go_at_call 20; go_fit (i1 _ (row_ownX (HO.out _ HB0.out))); rintro e0 w1 ⟨rfl, hb⟩; have HA1 := Lib.hid (arrX_on HA0.out hb); have HB1 := Lib.hid (HB0.out.trans (hb.mono HB0.out.size)); clear hb; obtain ⟨⟨c0, c1⟩, f0, f1⟩ := arrX_two HA1.out))
    have hE : Arr _ w.heap.size 27 [.slice none 0 0, .int .i64 1] := ((HA1.out.put 0 (.slice none 0 0)).put 1 (.int .i64 1))
    exact bodyPost_ret (v := .agg #[.slice none 0 0, .int .i64 1]) (results_cell_row (P := Try.prog) Try.results14 _ _ w.heap.size 27 _ (0, 0) _ rfl hE Try.underlying27 rfl (by kernel_rfl)) rfl
      ⟨bo_ill _ _ _, (HB1.out.setCell (p := ⟨w.heap.size, 0, none⟩) (Nat.le_refl _) _).setCell (p := ⟨w.heap.size, 1, none⟩) (Nat.le_refl _) _⟩
  rw [hk] at i1
  cases ha : addrB j
  · rw [show addR xs j = illB 1 by unfold addR; rw [if_neg hs, if_pos (.inr ha)]]
    rw [ha] at i2
    rw [hxn] at hn i1 i3 HO ⊢
    clear hO hw hxn hk hs ha
    go_enter Try.func14, Try.ntmps14
    go_wp2_with (first
      | (go_at_call 49; have _ := HA1; go_fit (i2 _); rintro e0 w2 ⟨rfl, hb⟩; have HA2 := Lib.hid (arrX_on HA1.out hb); have HB2 := Lib.hid (HB1.out.trans (hb.mono HB1.out.size)); clear hb; obtain ⟨⟨c0, c1⟩, f0, f1⟩ := arrX_two HA2.out)
      | (go_at_call 20; go_fit (i1 _ (row_ownX (HO.out _ HB0.out))); rintro e0 w1 ⟨rfl, hb⟩; have HA1 := Lib.hid (arrX_on HA0.out hb); have HB1 := Lib.hid (HB0.out.trans (hb.mono HB0.out.size)); clear hb; obtain ⟨⟨c0, c1⟩, f0, f1⟩ := arrX_two HA1.out))
    have hE : Arr _ w.heap.size 27 [.slice none 0 0, .int .i64 1] := ((HA2.out.put 0 (.slice none 0 0)).put 1 (.int .i64 1))
    exact bodyPost_ret (v := .agg #[.slice none 0 0, .int .i64 1]) (results_cell_row (P := Try.prog) Try.results14 _ _ w.heap.size 27 _ (0, 0) _ rfl hE Try.underlying27 rfl (by kernel_rfl)) rfl
      ⟨bo_ill _ _ _, (HB2.out.setCell (p := ⟨w.heap.size, 0, none⟩) (Nat.le_refl _) _).setCell (p := ⟨w.heap.size, 1, none⟩) (Nat.le_refl _) _⟩
  rw [ha] at i2
  have hI := (bkB_iff.1 hk).2.1
  have h8 := (bkB_iff.1 hk).1
  have hnf : ¬ (bkB xs = false ∨ addrB j = false) := by rw [hk, ha]; simp
  rw [hereT_any hI] at i3
  cases hh : hereT j xs
  rotate_left
  · rw [show addR xs j = illB 7 by unfold addR; rw [if_neg hs, if_neg hnf, if_pos hh]]
    rw [hh] at i3
    rw [hxn] at hn i1 i3 HO ⊢
    clear hO hw hxn hk hs ha hI hnf hh
    go_enter Try.func14, Try.ntmps14
    go_wp2_with (first
      | (go_at_call 50; have _ := HA2; go_fit (i3 _ (row_ownX (HO.out _ HB2.out))); rintro e0 w3 ⟨rfl, hb⟩; have HA3 := Lib.hid (arrX_on HA2.out hb); have HB3 := Lib.hid (HB2.out.trans (hb.mono HB2.out.size)); clear hb; obtain ⟨⟨c0, c1⟩, f0, f1⟩ := arrX_two HA3.out)
      | (go_at_call 49; have _ := HA1; go_fit (i2 _); rintro e0 w2 ⟨rfl, hb⟩; have HA2 := Lib.hid (arrX_on HA1.out hb); have HB2 := Lib.hid (HB1.out.trans (hb.mono HB1.out.size)); clear hb; obtain ⟨⟨c0, c1⟩, f0, f1⟩ := arrX_two HA2.out)
      | (go_at_call 20; go_fit (i1 _ (row_ownX (HO.out _ HB0.out))); rintro e0 w1 ⟨rfl, hb⟩; have HA1 := Lib.hid (arrX_on HA0.out hb); have HB1 := Lib.hid (HB0.out.trans (hb.mono HB0.out.size)); clear hb; obtain ⟨⟨c0, c1⟩, f0, f1⟩ := arrX_two HA1.out))
    have hE : Arr _ w.heap.size 27 [.slice none 0 0, .int .i64 7] := ((HA3.out.put 0 (.slice none 0 0)).put 1 (.int .i64 7))
    exact bodyPost_ret (v := .agg #[.slice none 0 0, .int .i64 7]) (results_cell_row (P := Try.prog) Try.results14 _ _ w.heap.size 27 _ (0, 0) _ rfl hE Try.underlying27 rfl (by kernel_rfl)) rfl
      ⟨bo_ill _ _ _, (HB3.out.setCell (p := ⟨w.heap.size, 0, none⟩) (Nat.le_refl _) _).setCell (p := ⟨w.heap.size, 1, none⟩) (Nat.le_refl _) _⟩
  rw [hh] at i3
  have hh2 : ¬ hereT j xs = true := by rw [hh]; decide
  by_cases h9 : 8 ≤ xs.length
  · rw [show addR xs j = illB 9 by unfold addR; rw [if_neg hs, if_neg hnf, if_neg hh2, if_pos h9]]
    rw [hxn] at hn i1 i3 HO h9 ⊢
    clear hO hw hxn hk hs ha hI hnf hh hh2
    have q1 : (8 : Int) ≤ (n : Int) := by omega
    go_enter Try.func14, Try.ntmps14
    go_wp2_with (first
      | (go_at_call 50; have _ := HA2; go_fit (i3 _ (row_ownX (HO.out _ HB2.out))); rintro e0 w3 ⟨rfl, hb⟩; have HA3 := Lib.hid (arrX_on HA2.out hb); have HB3 := Lib.hid (HB2.out.trans (hb.mono HB2.out.size)); clear hb; obtain ⟨⟨c0, c1⟩, f0, f1⟩ := arrX_two HA3.out)
      | (go_at_call 49; have _ := HA1; go_fit (i2 _); rintro e0 w2 ⟨rfl, hb⟩; have HA2 := Lib.hid (arrX_on HA1.out hb); have HB2 := Lib.hid (HB1.out.trans (hb.mono HB1.out.size)); clear hb; obtain ⟨⟨c0, c1⟩, f0, f1⟩ := arrX_two HA2.out)
      | (go_at_call 20; go_fit (i1 _ (row_ownX (HO.out _ HB0.out))); rintro e0 w1 ⟨rfl, hb⟩; have HA1 := Lib.hid (arrX_on HA0.out hb); have HB1 := Lib.hid (HB0.out.trans (hb.mono HB0.out.size)); clear hb; obtain ⟨⟨c0, c1⟩, f0, f1⟩ := arrX_two HA1.out))
    have hE : Arr _ w.heap.size 27 [.slice none 0 0, .int .i64 9] := ((HA3.out.put 0 (.slice none 0 0)).put 1 (.int .i64 9))
    exact bodyPost_ret (v := .agg #[.slice none 0 0, .int .i64 9]) (results_cell_row (P := Try.prog) Try.results14 _ _ w.heap.size 27 _ (0, 0) _ rfl hE Try.underlying27 rfl (by kernel_rfl)) rfl
      ⟨bo_ill _ _ _, (HB3.out.setCell (p := ⟨w.heap.size, 0, none⟩) (Nat.le_refl _) _).setCell (p := ⟨w.heap.size, 1, none⟩) (Nat.le_refl _) _⟩
  rw [show addR xs j = ⟨xs.take (posT j xs) ++ [j] ++ xs.drop (posT j xs), 0⟩ by unfold addR; rw [if_neg hs, if_neg hnf, if_neg hh2, if_neg h9]]
  obtain ⟨P, hP⟩ : ∃ P, posT j xs = P := ⟨_, rfl⟩
  have hpl := posT_le j xs
  rw [hP] at hpl ⊢
  have i4 := fun B1 W hO => spec_putX xs j n P p c B1 W hxn (by omega) hP hO
  have HML : Hid ((xs.take P ++ [j] ++ xs.drop P).length = n + 1) := Lib.hid (by simp only [List.length_append, List.length_take, List.length_drop, List.length_cons, List.length_nil]; omega)
  have q1 : ¬ (8 : Int) ≤ (n : Int) := by omega
  have hl1 : w.heap.size < w.heap.size + 1 := Nat.lt_succ_self _
  rw [hxn] at hn i1 i3 HO ⊢
  clear hO hw hxn hk hs ha hI hnf hh hh2 h9 hP hpl
  go_enter Try.func14, Try.ntmps14
  go_wp2_with (first
    | (go_at_call 51; have _ := HA3; go_fit (i4 _ _ (HO.out _ HB3.out)); rintro e0 w4 ⟨⟨q4, k4, rfl, hv⟩, hb⟩; have HV4 := Lib.hid (hv.mono (show w.heap.size + 1 ≤ w3.heap.size from arrX_lt HA3.out)); clear hv; have HA4 := Lib.hid (arrX_on HA3.out hb); have HB4 := Lib.hid (HB3.out.trans (hb.mono HB3.out.size)); clear hb; obtain ⟨⟨c0, c1⟩, f0, f1⟩ := arrX_two HA4.out)
    | (go_at_call 50; have _ := HA2; go_fit (i3 _ (row_ownX (HO.out _ HB2.out))); rintro e0 w3 ⟨rfl, hb⟩; have HA3 := Lib.hid (arrX_on HA2.out hb); have HB3 := Lib.hid (HB2.out.trans (hb.mono HB2.out.size)); clear hb; obtain ⟨⟨c0, c1⟩, f0, f1⟩ := arrX_two HA3.out)
    | (go_at_call 49; have _ := HA1; go_fit (i2 _); rintro e0 w2 ⟨rfl, hb⟩; have HA2 := Lib.hid (arrX_on HA1.out hb); have HB2 := Lib.hid (HB1.out.trans (hb.mono HB1.out.size)); clear hb; obtain ⟨⟨c0, c1⟩, f0, f1⟩ := arrX_two HA2.out)
    | (go_at_call 20; go_fit (i1 _ (row_ownX (HO.out _ HB0.out))); rintro e0 w1 ⟨rfl, hb⟩; have HA1 := Lib.hid (arrX_on HA0.out hb); have HB1 := Lib.hid (HB0.out.trans (hb.mono HB0.out.size)); clear hb; obtain ⟨⟨c0, c1⟩, f0, f1⟩ := arrX_two HA1.out))
  have hv4 := HV4.out
  rw [← HML.out] at hv4
  obtain ⟨hE, hO2, hBl⟩ := passX (R := ⟨xs.take P ++ [j] ++ xs.drop P, 0⟩) HA4.out HB4.out (Nat.le_refl _) hl1 hv4
  rw [HML.out] at hE
  exact bodyPost_ret (v := .agg #[.slice q4 (n + 1) k4, .int .i64 0]) (results_cell_row (P := Try.prog) Try.results14 _ _ w.heap.size 27 _ (0, 0) _ rfl hE Try.underlying27 rfl (by kernel_rfl)) rfl
    ⟨⟨q4, k4, by rw [HML.out], by rw [HML.out] at hO2 ⊢; exact hO2⟩, by rw [HML.out] at hBl; exact hBl⟩
set_option maxRecDepth 100000 in
set_option maxHeartbeats 4000000 in
theorem spec_blockdel (xs : List ByteArray) (j : ByteArray) (p : Option Addr) (c B0 : Nat) (w : World) (hn : xs.length ≤ 1048576) (hj : j.size ≤ 1048576) (hw : ∀ x ∈ xs, x.size ≤ 1048576) (hO : OwnC strC w B0 9 1 (.slice p xs.length c) xs) :
    Calls Try.prog 16 #[.slice p xs.length c, .string j] w fun e w' => BoIs w.heap.size (delR xs j) e w' ∧ Below w.heap.size w w' := by
  have HA0 : Hid (Arr (w.alloc (.cells #[.slice none 0 0, .int .i64 0] 27)) w.heap.size 27 [.slice none 0 0, .int .i64 0]) := Lib.hid (Arr.fresh w _ [.slice none 0 0, .int .i64 0])
  have HB0 : Hid (Below w.heap.size w (w.alloc (.cells #[.slice none 0 0, .int .i64 0] 27))) := Lib.hid ((Below.refl _ _).alloc (Nat.le_refl _) _)
  have HO := Lib.hid (fun W (h : Below w.heap.size w W) => hO.on h)
  have i1 := fun W h => spec_bkright xs p c W hn (tx_two hw) h
  have i2 := fun W => spec_l11jid j W (by omega)
  have i3 := fun W (h : xs.length ≤ 1000) hr => spec_inX xs j p c W h hr
  obtain ⟨n, hxn⟩ : ∃ n, xs.length = n := ⟨_, rfl⟩
  have HN := Lib.hid hxn
  by_cases hs : 400 < xs.length ∨ 20000 < j.size
  · rw [show delR xs j = illB 2 by unfold delR; exact if_pos hs]
    rw [hxn] at hs ⊢
    clear hO hw i1 i2 i3 hxn hn
    by_cases h2 : 400 < n
    · clear hs
      go_enter Try.func16, Try.ntmps16
      go_wp2
      exact bodyPost_ret (v := .agg #[.slice none 0 0, .int .i64 2]) (results_cell_row (P := Try.prog) Try.results16 _ _ w.heap.size 27 _ (0, 0) _ rfl (Arr.fresh w _ [.slice none 0 0, .int .i64 2]) Try.underlying27 rfl (by kernel_rfl)) rfl
        ⟨bo_ill _ _ _, (Below.refl _ _).alloc (Nat.le_refl _) _⟩
    · have h3 : 20000 < j.size := by omega
      clear hs
      go_enter Try.func16, Try.ntmps16
      go_wp2
      exact bodyPost_ret (v := .agg #[.slice none 0 0, .int .i64 2]) (results_cell_row (P := Try.prog) Try.results16 _ _ w.heap.size 27 _ (0, 0) _ rfl (Arr.fresh w _ [.slice none 0 0, .int .i64 2]) Try.underlying27 rfl (by kernel_rfl)) rfl
        ⟨bo_ill _ _ _, (Below.refl _ _).alloc (Nat.le_refl _) _⟩
  have g1 : ¬ 400 < n := by omega
  have g2 : ¬ 20000 < j.size := by omega
  replace i3 := fun W hr => i3 W (by omega) hr
  cases hk : bkB xs
  · rw [show delR xs j = illB 1 by unfold delR; rw [if_neg hs, if_pos hk]]
    rw [hk] at i1
    rw [hxn] at hn i1 i3 HO ⊢
    clear hO hw hxn hk hs
    go_enter Try.func16, Try.ntmps16
    go_wp2_with (first
      | (go_at_call 20; go_fit (i1 _ (row_ownX (HO.out _ HB0.out))); rintro e0 w1 ⟨rfl, hb⟩; have HA1 := Lib.hid (arrX_on HA0.out hb); have HB1 := Lib.hid (HB0.out.trans (hb.mono HB0.out.size)); clear hb; obtain ⟨⟨c0, c1⟩, f0, f1⟩ := arrX_two HA1.out))
    have hE : Arr _ w.heap.size 27 [.slice none 0 0, .int .i64 1] := ((HA1.out.put 0 (.slice none 0 0)).put 1 (.int .i64 1))
    exact bodyPost_ret (v := .agg #[.slice none 0 0, .int .i64 1]) (results_cell_row (P := Try.prog) Try.results16 _ _ w.heap.size 27 _ (0, 0) _ rfl hE Try.underlying27 rfl (by kernel_rfl)) rfl
      ⟨bo_ill _ _ _, (HB1.out.setCell (p := ⟨w.heap.size, 0, none⟩) (Nat.le_refl _) _).setCell (p := ⟨w.heap.size, 1, none⟩) (Nat.le_refl _) _⟩
  rw [hk] at i1
  have hI := (bkB_iff.1 hk).2.1
  have h8 := (bkB_iff.1 hk).1
  have hnf : ¬ bkB xs = false := by rw [hk]; simp
  rw [hereT_any hI] at i3
  cases hh : hereT j xs
  · rw [show delR xs j = illB 6 by unfold delR; rw [if_neg hs, if_neg hnf, if_pos hh]]
    rw [hh] at i3
    rw [hxn] at hn i1 i3 HO ⊢
    clear hO hw hxn hk hs hI hnf hh
    go_enter Try.func16, Try.ntmps16
    go_wp2_with (first
      | (go_at_call 50; have _ := HA1; go_fit (i3 _ (row_ownX (HO.out _ HB1.out))); rintro e0 w3 ⟨rfl, hb⟩; have HA3 := Lib.hid (arrX_on HA1.out hb); have HB3 := Lib.hid (HB1.out.trans (hb.mono HB1.out.size)); clear hb; obtain ⟨⟨c0, c1⟩, f0, f1⟩ := arrX_two HA3.out)
      | (go_at_call 20; go_fit (i1 _ (row_ownX (HO.out _ HB0.out))); rintro e0 w1 ⟨rfl, hb⟩; have HA1 := Lib.hid (arrX_on HA0.out hb); have HB1 := Lib.hid (HB0.out.trans (hb.mono HB0.out.size)); clear hb; obtain ⟨⟨c0, c1⟩, f0, f1⟩ := arrX_two HA1.out))
    have hE : Arr _ w.heap.size 27 [.slice none 0 0, .int .i64 6] := ((HA3.out.put 0 (.slice none 0 0)).put 1 (.int .i64 6))
    exact bodyPost_ret (v := .agg #[.slice none 0 0, .int .i64 6]) (results_cell_row (P := Try.prog) Try.results16 _ _ w.heap.size 27 _ (0, 0) _ rfl hE Try.underlying27 rfl (by kernel_rfl)) rfl
      ⟨bo_ill _ _ _, (HB3.out.setCell (p := ⟨w.heap.size, 0, none⟩) (Nat.le_refl _) _).setCell (p := ⟨w.heap.size, 1, none⟩) (Nat.le_refl _) _⟩
  rw [hh] at i3
  have hh2 : ¬ hereT j xs = false := by rw [hh]; decide
  rw [show delR xs j = ⟨xs.take (posT j xs) ++ xs.drop (posT j xs + 1), 0⟩ by unfold delR; rw [if_neg hs, if_neg hnf, if_neg hh2]]
  have hlt := hereT_lt hh
  have i4 := fun W hr => spec_outX xs j p c W (by omega) hr
  rw [filter_out hI hh] at i4
  obtain ⟨P, hP⟩ : ∃ P, posT j xs = P := ⟨_, rfl⟩
  rw [hP] at hlt i4 ⊢
  have HML : Hid ((xs.take P ++ xs.drop (P + 1)).length = n - 1) := Lib.hid (by simp only [List.length_append, List.length_take, List.length_drop]; omega)
  have hl1 : w.heap.size < w.heap.size + 1 := Nat.lt_succ_self _
  rw [hxn, HML.out] at i4
  rw [hxn] at hn i1 i3 HO ⊢
  clear hO hw hxn hk hs hI hnf hh hh2 hP hlt
  go_enter Try.func16, Try.ntmps16
  go_wp2_with (first
    | (go_at_call 53; have _ := HA3; go_fit (i4 _ (row_ownX (HO.out _ HB3.out))); rintro e0 w4 ⟨⟨q4, k4, rfl, hv⟩, hb⟩; have HV4 := Lib.hid (hv.mono (show w.heap.size + 1 ≤ w3.heap.size from arrX_lt HA3.out)); clear hv; have HA4 := Lib.hid (arrX_on HA3.out hb); have HB4 := Lib.hid (HB3.out.trans (hb.mono HB3.out.size)); clear hb; obtain ⟨⟨c0, c1⟩, f0, f1⟩ := arrX_two HA4.out)
    | (go_at_call 50; have _ := HA1; go_fit (i3 _ (row_ownX (HO.out _ HB1.out))); rintro e0 w3 ⟨rfl, hb⟩; have HA3 := Lib.hid (arrX_on HA1.out hb); have HB3 := Lib.hid (HB1.out.trans (hb.mono HB1.out.size)); clear hb; obtain ⟨⟨c0, c1⟩, f0, f1⟩ := arrX_two HA3.out)
    | (go_at_call 20; go_fit (i1 _ (row_ownX (HO.out _ HB0.out))); rintro e0 w1 ⟨rfl, hb⟩; have HA1 := Lib.hid (arrX_on HA0.out hb); have HB1 := Lib.hid (HB0.out.trans (hb.mono HB0.out.size)); clear hb; obtain ⟨⟨c0, c1⟩, f0, f1⟩ := arrX_two HA1.out))
  have hv4 := HV4.out
  rw [← HML.out] at hv4
  obtain ⟨hE, hO2, hBl⟩ := passX (R := ⟨xs.take P ++ xs.drop (P + 1), 0⟩) HA4.out HB4.out (Nat.le_refl _) hl1 hv4
  rw [HML.out] at hE
  exact bodyPost_ret (v := .agg #[.slice q4 (n - 1) k4, .int .i64 0]) (results_cell_row (P := Try.prog) Try.results16 _ _ w.heap.size 27 _ (0, 0) _ rfl hE Try.underlying27 rfl (by kernel_rfl)) rfl
    ⟨⟨q4, k4, by rw [HML.out], by rw [HML.out] at hO2 ⊢; exact hO2⟩, by rw [HML.out] at hBl; exact hBl⟩
end Go.Proofs.Ytpjmcpfmnlfmdaa
