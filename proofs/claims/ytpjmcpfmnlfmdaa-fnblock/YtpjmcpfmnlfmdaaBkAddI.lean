/- What the program's BlockAdd and BlockDel answer. -/
import Derived.Test.YtpjmcpfmnlfmdaaBkOps
import Derived.Test.YtpjmcpfmnlfmdaaBkLawR
namespace Go.Proofs.Ytpjmcpfmnlfmdaa
set_option linter.unusedSimpArgs false
set_option linter.unusedVariables false
open Go.RowKit Go.Joins

set_option maxRecDepth 100000 in
set_option maxHeartbeats 4000000 in
theorem impl_blockadd (xs : List ByteArray) (j : ByteArray) (p : Option Addr) (c : Nat) (w : World) (hn : xs.length ≤ 1048576) (hj : j.size ≤ 1048576) (hw : ∀ x ∈ xs, x.size ≤ 1048576) (hR : RowC strC 1 w p xs) (hm : MaxL w) :
    Calls Try.prog 11 #[.slice p xs.length c, .string j] w fun e w' => BoIs w.heap.size (addR xs j) e w' ∧ Below w.heap.size w w' := by
  have HA0 : Hid (Arr (w.alloc (.cells #[.slice none 0 0, .int .i64 0] 27)) w.heap.size 27 [.slice none 0 0, .int .i64 0]) := Lib.hid (Arr.fresh w _ [.slice none 0 0, .int .i64 0])
  have HB0 : Hid (Below w.heap.size w (w.alloc (.cells #[.slice none 0 0, .int .i64 0] 27))) := Lib.hid ((Below.refl _ _).alloc (Nat.le_refl _) _)
  have HR := Lib.hid (fun W (h : Below w.heap.size w W) => hR.on h)
  have HM := Lib.hid (fun W (h : Below w.heap.size w W) => hm.below h hm.pos)
  have i1 := fun W h hm => impl_blockAt xs j p c W hn hj (tx_max hw) h hm
  have i2 := fun W hm => impl_address j W (by unfold maxLen; omega) hm
  have i3 := fun W h => impl_txcopy xs p c W hn hw h
  have i5 := fun W => joined_at9 j W (by omega)
  obtain ⟨n, hxn⟩ : ∃ n, xs.length = n := ⟨_, rfl⟩
  have HN := Lib.hid hxn
  by_cases hs : 400 < xs.length ∨ 20000 < j.size
  · rw [show addR xs j = illB 2 by unfold addR; exact if_pos hs]
    rw [show atT xs j = (0, 2) by unfold atT; exact if_pos hs] at i1
    rw [hxn] at hn i1 i3 ⊢
    clear hR hm hw hs i3 i2 i5
    go_enter Try.func11, Try.ntmps11
    go_wp2_with (first
      | (go_at_call 44; go_fit (i1 _ (HR.out _ HB0.out) (HM.out _ HB0.out)); rintro e0 w1 ⟨rfl, hb⟩; have HA1 := Lib.hid (arrX_on HA0.out hb); have HB1 := Lib.hid (HB0.out.trans (hb.mono HB0.out.size)); clear hb; obtain ⟨⟨c0, c1⟩, f0, f1⟩ := arrX_two HA1.out))
    have hE : Arr _ w.heap.size 27 [.slice none 0 0, .int .i64 2] := ((HA1.out.put 0 (.slice none 0 0)).put 1 (.int .i64 2))
    exact bodyPost_ret (v := .agg #[.slice none 0 0, .int .i64 2]) (results_cell_row (P := Try.prog) Try.results11 _ _ w.heap.size 27 _ (0, 0) _ rfl hE Try.underlying27 rfl (by kernel_rfl)) rfl
      ⟨bo_ill _ _ _, (HB1.out.setCell (p := ⟨w.heap.size, 0, none⟩) (Nat.le_refl _) _).setCell (p := ⟨w.heap.size, 1, none⟩) (Nat.le_refl _) _⟩
  cases hk : bkB xs
  · rw [show addR xs j = illB 1 by unfold addR; rw [if_neg hs, if_pos (.inl hk)]]
    rw [show atT xs j = (0, 1) by unfold atT; rw [if_neg hs, if_pos hk]] at i1
    rw [hxn] at hn i1 i3 ⊢
    clear hR hm hw hs i3 i2 hk i5
    go_enter Try.func11, Try.ntmps11
    go_wp2_with (first
      | (go_at_call 44; go_fit (i1 _ (HR.out _ HB0.out) (HM.out _ HB0.out)); rintro e0 w1 ⟨rfl, hb⟩; have HA1 := Lib.hid (arrX_on HA0.out hb); have HB1 := Lib.hid (HB0.out.trans (hb.mono HB0.out.size)); clear hb; obtain ⟨⟨c0, c1⟩, f0, f1⟩ := arrX_two HA1.out))
    have hE : Arr _ w.heap.size 27 [.slice none 0 0, .int .i64 1] := ((HA1.out.put 0 (.slice none 0 0)).put 1 (.int .i64 1))
    exact bodyPost_ret (v := .agg #[.slice none 0 0, .int .i64 1]) (results_cell_row (P := Try.prog) Try.results11 _ _ w.heap.size 27 _ (0, 0) _ rfl hE Try.underlying27 rfl (by kernel_rfl)) rfl
      ⟨bo_ill _ _ _, (HB1.out.setCell (p := ⟨w.heap.size, 0, none⟩) (Nat.le_refl _) _).setCell (p := ⟨w.heap.size, 1, none⟩) (Nat.le_refl _) _⟩
  cases hh : hereT j xs
  rotate_left
  · have ha := bk_addr hk hh
    rw [show addR xs j = illB 7 by unfold addR; rw [if_neg hs, if_neg (by rw [hk, ha]; simp), if_pos hh]]
    rw [show atT xs j = (posT j xs, 0) by unfold atT; rw [if_neg hs, if_neg (by rw [hk]; simp), if_neg (by rw [hh]; simp)]] at i1
    rw [hxn] at hn i1 i3 ⊢
    clear hR hm hw hs i3 i2 hk hh ha i5
    go_enter Try.func11, Try.ntmps11
    go_wp2_with (first
      | (go_at_call 44; go_fit (i1 _ (HR.out _ HB0.out) (HM.out _ HB0.out)); rintro e0 w1 ⟨rfl, hb⟩; have HA1 := Lib.hid (arrX_on HA0.out hb); have HB1 := Lib.hid (HB0.out.trans (hb.mono HB0.out.size)); clear hb; obtain ⟨⟨c0, c1⟩, f0, f1⟩ := arrX_two HA1.out))
    have hE : Arr _ w.heap.size 27 [.slice none 0 0, .int .i64 7] := ((HA1.out.put 0 (.slice none 0 0)).put 1 (.int .i64 7))
    exact bodyPost_ret (v := .agg #[.slice none 0 0, .int .i64 7]) (results_cell_row (P := Try.prog) Try.results11 _ _ w.heap.size 27 _ (0, 0) _ rfl hE Try.underlying27 rfl (by kernel_rfl)) rfl
      ⟨bo_ill _ _ _, (HB1.out.setCell (p := ⟨w.heap.size, 0, none⟩) (Nat.le_refl _) _).setCell (p := ⟨w.heap.size, 1, none⟩) (Nat.le_refl _) _⟩
  rw [show atT xs j = (posT j xs, 6) by unfold atT; rw [if_neg hs, if_neg (by rw [hk]; simp), if_pos hh]] at i1
  cases ha : addrB j
  · rw [show addR xs j = illB 1 by unfold addR; rw [if_neg hs, if_pos (.inr ha)]]
    rw [ha] at i2
    rw [hxn] at hn i1 i3 ⊢
    clear hR hm hw hs i3 hk hh ha i5
    go_enter Try.func11, Try.ntmps11
    go_wp2_with (first
      | (go_at_call 45; have _ := HA1; go_fit (i2 _ (HM.out _ HB1.out)); rintro e0 w2 ⟨rfl, hb⟩; have HA2 := Lib.hid (arrX_on HA1.out hb); have HB2 := Lib.hid (HB1.out.trans (hb.mono HB1.out.size)); clear hb; obtain ⟨⟨c0, c1⟩, f0, f1⟩ := arrX_two HA2.out)
      | (go_at_call 44; go_fit (i1 _ (HR.out _ HB0.out) (HM.out _ HB0.out)); rintro e0 w1 ⟨rfl, hb⟩; have HA1 := Lib.hid (arrX_on HA0.out hb); have HB1 := Lib.hid (HB0.out.trans (hb.mono HB0.out.size)); clear hb; obtain ⟨⟨c0, c1⟩, f0, f1⟩ := arrX_two HA1.out))
    have hE : Arr _ w.heap.size 27 [.slice none 0 0, .int .i64 1] := ((HA2.out.put 0 (.slice none 0 0)).put 1 (.int .i64 1))
    exact bodyPost_ret (v := .agg #[.slice none 0 0, .int .i64 1]) (results_cell_row (P := Try.prog) Try.results11 _ _ w.heap.size 27 _ (0, 0) _ rfl hE Try.underlying27 rfl (by kernel_rfl)) rfl
      ⟨bo_ill _ _ _, (HB2.out.setCell (p := ⟨w.heap.size, 0, none⟩) (Nat.le_refl _) _).setCell (p := ⟨w.heap.size, 1, none⟩) (Nat.le_refl _) _⟩
  rw [ha] at i2
  have h8 := (bkB_iff.1 hk).1
  have hnf : ¬ (bkB xs = false ∨ addrB j = false) := by rw [hk, ha]; simp
  have hh2 : ¬ hereT j xs = true := by rw [hh]; decide
  by_cases h9 : 8 ≤ xs.length
  · rw [show addR xs j = illB 9 by unfold addR; rw [if_neg hs, if_neg hnf, if_neg hh2, if_pos h9]]
    obtain rfl : n = 8 := by omega
    rw [hxn] at hn i1 i3 ⊢
    clear hR hm hw hs i3 hk hh ha hnf hh2 h9 i5
    go_enter Try.func11, Try.ntmps11
    go_wp2_with (first
      | (go_at_call 45; have _ := HA1; go_fit (i2 _ (HM.out _ HB1.out)); rintro e0 w2 ⟨rfl, hb⟩; have HA2 := Lib.hid (arrX_on HA1.out hb); have HB2 := Lib.hid (HB1.out.trans (hb.mono HB1.out.size)); clear hb; obtain ⟨⟨c0, c1⟩, f0, f1⟩ := arrX_two HA2.out)
      | (go_at_call 44; go_fit (i1 _ (HR.out _ HB0.out) (HM.out _ HB0.out)); rintro e0 w1 ⟨rfl, hb⟩; have HA1 := Lib.hid (arrX_on HA0.out hb); have HB1 := Lib.hid (HB0.out.trans (hb.mono HB0.out.size)); clear hb; obtain ⟨⟨c0, c1⟩, f0, f1⟩ := arrX_two HA1.out))
    have hE : Arr _ w.heap.size 27 [.slice none 0 0, .int .i64 9] := ((HA2.out.put 0 (.slice none 0 0)).put 1 (.int .i64 9))
    exact bodyPost_ret (v := .agg #[.slice none 0 0, .int .i64 9]) (results_cell_row (P := Try.prog) Try.results11 _ _ w.heap.size 27 _ (0, 0) _ rfl hE Try.underlying27 rfl (by kernel_rfl)) rfl
      ⟨bo_ill _ _ _, (HB2.out.setCell (p := ⟨w.heap.size, 0, none⟩) (Nat.le_refl _) _).setCell (p := ⟨w.heap.size, 1, none⟩) (Nat.le_refl _) _⟩
  rw [show addR xs j = ⟨xs.take (posT j xs) ++ [j] ++ xs.drop (posT j xs), 0⟩ by unfold addR; rw [if_neg hs, if_neg hnf, if_neg hh2, if_neg h9]]
  obtain ⟨P, hP⟩ : ∃ P, posT j xs = P := ⟨_, rfl⟩
  have hpl := posT_le j xs
  rw [hP] at hpl i1 ⊢
  have i4 := fun g vb B W hO hY => impl_insX xs j n P g vb B W hxn (by omega) (by omega) hO hY
  have HML : Hid ((xs.take P ++ [j] ++ xs.drop P).length = n + 1) := Lib.hid (by simp only [List.length_append, List.length_take, List.length_drop, List.length_cons, List.length_nil]; omega)
  have q1 : ¬ (n : Int) = (8 : Int) := by omega
  have q2 : ((n : Int) == (8 : Int)) = false := by simpa using q1
  have q3 : ¬ n = 8 := by omega
  have hl1 : w.heap.size < w.heap.size + 1 := Nat.lt_succ_self _
  rw [hxn] at hn i1 i3 ⊢
  clear hR hm hw hxn hk hs ha hnf hh hh2 h9 hP hpl
  go_enter Try.func11, Try.ntmps11
  go_wp2_with (first
    | (go_at_call 46; have _ := HA5; go_fit (i4 w2.heap.size w5.heap.size w2.heap.size _ (HV5.out.alloc _) ((Arr.fresh w5 9 [.string j]).cell 0)); rintro e0 w4 ⟨⟨q4, k4, rfl, hv⟩, hb⟩; have HV4 := Lib.hid (hv.mono (show w.heap.size + 1 ≤ _ by rw [World.size_alloc]; have := arrX_lt HA5.out; omega)); clear hv; have HA4 := Lib.hid (arrX_on (arrX_on HA5.out ((Below.refl _ _).alloc (Nat.le_refl _) _)) hb); have HB4 := Lib.hid ((HB5.out.alloc HB5.out.size _).trans (hb.mono (HB5.out.alloc HB5.out.size _).size)); clear hb; obtain ⟨⟨c0, c1⟩, f0, f1⟩ := arrX_two HA4.out)
    | (go_at_call 48; have _ := HA3; go_fit (i5 _ _ (by simp)); rintro e0 w5 ⟨rfl, hb⟩; have HV5 := Lib.hid (HV3.out.on hb); have hw3 : w3.heap.size ≤ w5.heap.size := hb.size; have HA5 := Lib.hid (arrX_on HA3.out hb); have HB5 := Lib.hid (HB3.out.trans (hb.mono HB3.out.size)); clear hb; obtain ⟨⟨c0, c1⟩, f0, f1⟩ := arrX_two HA5.out)
    | (go_at_call 47; have _ := HA2; go_fit (i3 _ (HR.out _ HB2.out)); rintro e0 w3 ⟨⟨rfl, hv⟩, hb⟩; have HV3 := Lib.hid hv; have hw2 : w.heap.size < w2.heap.size := arrX_lt HA2.out; clear hv; have HA3 := Lib.hid (arrX_on HA2.out hb); have HB3 := Lib.hid (HB2.out.trans (hb.mono HB2.out.size)); clear hb; obtain ⟨⟨c0, c1⟩, f0, f1⟩ := arrX_two HA3.out)
    | (go_at_call 45; have _ := HA1; go_fit (i2 _ (HM.out _ HB1.out)); rintro e0 w2 ⟨rfl, hb⟩; have HA2 := Lib.hid (arrX_on HA1.out hb); have HB2 := Lib.hid (HB1.out.trans (hb.mono HB1.out.size)); clear hb; obtain ⟨⟨c0, c1⟩, f0, f1⟩ := arrX_two HA2.out)
    | (go_at_call 44; go_fit (i1 _ (HR.out _ HB0.out) (HM.out _ HB0.out)); rintro e0 w1 ⟨rfl, hb⟩; have HA1 := Lib.hid (arrX_on HA0.out hb); have HB1 := Lib.hid (HB0.out.trans (hb.mono HB0.out.size)); clear hb; obtain ⟨⟨c0, c1⟩, f0, f1⟩ := arrX_two HA1.out))
  have hv4 := HV4.out
  rw [← HML.out] at hv4
  obtain ⟨hE, hO2, hBl⟩ := passX (R := ⟨xs.take P ++ [j] ++ xs.drop P, 0⟩) HA4.out HB4.out (Nat.le_refl _) hl1 hv4
  rw [HML.out] at hE
  exact bodyPost_ret (v := .agg #[.slice q4 (n + 1) k4, .int .i64 0]) (results_cell_row (P := Try.prog) Try.results11 _ _ w.heap.size 27 _ (0, 0) _ rfl hE Try.underlying27 rfl (by kernel_rfl)) rfl
    ⟨⟨q4, k4, by rw [HML.out], by rw [HML.out] at hO2 ⊢; exact hO2⟩, by rw [HML.out] at hBl; exact hBl⟩
set_option maxRecDepth 100000 in
set_option maxHeartbeats 4000000 in
theorem impl_blockdel (xs : List ByteArray) (j : ByteArray) (p : Option Addr) (c : Nat) (w : World) (hn : xs.length ≤ 1048576) (hj : j.size ≤ 1048576) (hw : ∀ x ∈ xs, x.size ≤ 1048576) (hR : RowC strC 1 w p xs) (hm : MaxL w) :
    Calls Try.prog 15 #[.slice p xs.length c, .string j] w fun e w' => BoIs w.heap.size (delR xs j) e w' ∧ Below w.heap.size w w' := by
  have HA0 : Hid (Arr (w.alloc (.cells #[.slice none 0 0, .int .i64 0] 27)) w.heap.size 27 [.slice none 0 0, .int .i64 0]) := Lib.hid (Arr.fresh w _ [.slice none 0 0, .int .i64 0])
  have HB0 : Hid (Below w.heap.size w (w.alloc (.cells #[.slice none 0 0, .int .i64 0] 27))) := Lib.hid ((Below.refl _ _).alloc (Nat.le_refl _) _)
  have HR := Lib.hid (fun W (h : Below w.heap.size w W) => hR.on h)
  have HM := Lib.hid (fun W (h : Below w.heap.size w W) => hm.below h hm.pos)
  have i1 := fun W h hm => impl_blockAt xs j p c W hn hj (tx_max hw) h hm
  have i2 := fun W hm => impl_address j W (by unfold maxLen; omega) hm
  have i3 := fun W h => impl_txcopy xs p c W hn hw h
  have i5 := fun W => joined_at9 j W (by omega)
  obtain ⟨n, hxn⟩ : ∃ n, xs.length = n := ⟨_, rfl⟩
  have HN := Lib.hid hxn
  clear i2 i5
  by_cases hs : 400 < xs.length ∨ 20000 < j.size
  · rw [show delR xs j = illB 2 by unfold delR; exact if_pos hs]
    rw [show atT xs j = (0, 2) by unfold atT; exact if_pos hs] at i1
    rw [hxn] at hn i1 i3 ⊢
    clear hR hm hw hs i3
    go_enter Try.func15, Try.ntmps15
    go_wp2_with (first
      | (go_at_call 44; go_fit (i1 _ (HR.out _ HB0.out) (HM.out _ HB0.out)); rintro e0 w1 ⟨rfl, hb⟩; have HA1 := Lib.hid (arrX_on HA0.out hb); have HB1 := Lib.hid (HB0.out.trans (hb.mono HB0.out.size)); clear hb; obtain ⟨⟨c0, c1⟩, f0, f1⟩ := arrX_two HA1.out))
    have hE : Arr _ w.heap.size 27 [.slice none 0 0, .int .i64 2] := ((HA1.out.put 0 (.slice none 0 0)).put 1 (.int .i64 2))
    exact bodyPost_ret (v := .agg #[.slice none 0 0, .int .i64 2]) (results_cell_row (P := Try.prog) Try.results15 _ _ w.heap.size 27 _ (0, 0) _ rfl hE Try.underlying27 rfl (by kernel_rfl)) rfl
      ⟨bo_ill _ _ _, (HB1.out.setCell (p := ⟨w.heap.size, 0, none⟩) (Nat.le_refl _) _).setCell (p := ⟨w.heap.size, 1, none⟩) (Nat.le_refl _) _⟩
  cases hk : bkB xs
  · rw [show delR xs j = illB 1 by unfold delR; rw [if_neg hs, if_pos hk]]
    rw [show atT xs j = (0, 1) by unfold atT; rw [if_neg hs, if_pos hk]] at i1
    rw [hxn] at hn i1 i3 ⊢
    clear hR hm hw hs i3 hk
    go_enter Try.func15, Try.ntmps15
    go_wp2_with (first
      | (go_at_call 44; go_fit (i1 _ (HR.out _ HB0.out) (HM.out _ HB0.out)); rintro e0 w1 ⟨rfl, hb⟩; have HA1 := Lib.hid (arrX_on HA0.out hb); have HB1 := Lib.hid (HB0.out.trans (hb.mono HB0.out.size)); clear hb; obtain ⟨⟨c0, c1⟩, f0, f1⟩ := arrX_two HA1.out))
    have hE : Arr _ w.heap.size 27 [.slice none 0 0, .int .i64 1] := ((HA1.out.put 0 (.slice none 0 0)).put 1 (.int .i64 1))
    exact bodyPost_ret (v := .agg #[.slice none 0 0, .int .i64 1]) (results_cell_row (P := Try.prog) Try.results15 _ _ w.heap.size 27 _ (0, 0) _ rfl hE Try.underlying27 rfl (by kernel_rfl)) rfl
      ⟨bo_ill _ _ _, (HB1.out.setCell (p := ⟨w.heap.size, 0, none⟩) (Nat.le_refl _) _).setCell (p := ⟨w.heap.size, 1, none⟩) (Nat.le_refl _) _⟩
  have hnf : ¬ bkB xs = false := by rw [hk]; simp
  have h8 := (bkB_iff.1 hk).1
  cases hh : hereT j xs
  · rw [show delR xs j = illB 6 by unfold delR; rw [if_neg hs, if_neg hnf, if_pos hh]]
    rw [show atT xs j = (posT j xs, 6) by unfold atT; rw [if_neg hs, if_neg hnf, if_pos hh]] at i1
    rw [hxn] at hn i1 i3 ⊢
    clear hR hm hw hs i3 hk hh hnf
    go_enter Try.func15, Try.ntmps15
    go_wp2_with (first
      | (go_at_call 44; go_fit (i1 _ (HR.out _ HB0.out) (HM.out _ HB0.out)); rintro e0 w1 ⟨rfl, hb⟩; have HA1 := Lib.hid (arrX_on HA0.out hb); have HB1 := Lib.hid (HB0.out.trans (hb.mono HB0.out.size)); clear hb; obtain ⟨⟨c0, c1⟩, f0, f1⟩ := arrX_two HA1.out))
    have hE : Arr _ w.heap.size 27 [.slice none 0 0, .int .i64 6] := ((HA1.out.put 0 (.slice none 0 0)).put 1 (.int .i64 6))
    exact bodyPost_ret (v := .agg #[.slice none 0 0, .int .i64 6]) (results_cell_row (P := Try.prog) Try.results15 _ _ w.heap.size 27 _ (0, 0) _ rfl hE Try.underlying27 rfl (by kernel_rfl)) rfl
      ⟨bo_ill _ _ _, (HB1.out.setCell (p := ⟨w.heap.size, 0, none⟩) (Nat.le_refl _) _).setCell (p := ⟨w.heap.size, 1, none⟩) (Nat.le_refl _) _⟩
  have hh2 : ¬ hereT j xs = false := by rw [hh]; decide
  rw [show atT xs j = (posT j xs, 0) by unfold atT; rw [if_neg hs, if_neg hnf, if_neg hh2]] at i1
  rw [show delR xs j = ⟨xs.take (posT j xs) ++ xs.drop (posT j xs + 1), 0⟩ by unfold delR; rw [if_neg hs, if_neg hnf, if_neg hh2]]
  have hlt := hereT_lt hh
  obtain ⟨P, hP⟩ : ∃ P, posT j xs = P := ⟨_, rfl⟩
  rw [hP] at hlt i1 ⊢
  obtain ⟨M, hM⟩ : ∃ M, n = M + 1 := ⟨n - 1, by omega⟩
  subst hM
  have i4 := fun g B W hO => impl_delX xs M P g B W hxn (by omega) (by omega) hO
  have HML : Hid ((xs.take P ++ xs.drop (P + 1)).length = M) := Lib.hid (by simp only [List.length_append, List.length_take, List.length_drop]; omega)
  have hw1 : IntKind.i64.wrap ((P : Int) + 1) = (P : Int) + 1 := IntWalk.i64_in _ (by omega)
  have hl1 : w.heap.size < w.heap.size + 1 := Nat.lt_succ_self _
  rw [hxn] at hn i1 i3 ⊢
  clear hR hm hw hxn hk hs hnf hh hh2 hP hlt
  go_enter Try.func15, Try.ntmps15
  go_wp2_with (first
    | (go_at_call 52; have _ := HA3; go_fit (i4 w1.heap.size w1.heap.size _ HV3.out); rintro e0 w4 ⟨rfl, hv, hb⟩; have HV4 := Lib.hid (hv.mono (show w.heap.size + 1 ≤ w1.heap.size from hw2)); clear hv; have HA4 : Hid (Arr w4 w.heap.size 27 [.slice none 0 0, .int .i64 0]) := Lib.hid ((hb.block _ hw2).trans HA3.out); have HB4 := Lib.hid (HB3.out.trans (hb.mono (Nat.le_of_lt hw2))); clear hb; obtain ⟨⟨c0, c1⟩, f0, f1⟩ := arrX_two HA4.out)
    | (go_at_call 47; have _ := HA1; go_fit (i3 _ (HR.out _ HB1.out)); rintro e0 w3 ⟨⟨rfl, hv⟩, hb⟩; have HV3 := Lib.hid hv; have hw2 : w.heap.size < w1.heap.size := arrX_lt HA1.out; clear hv; have HA3 := Lib.hid (arrX_on HA1.out hb); have HB3 := Lib.hid (HB1.out.trans (hb.mono HB1.out.size)); clear hb; obtain ⟨⟨c0, c1⟩, f0, f1⟩ := arrX_two HA3.out)
    | (go_at_call 44; go_fit (i1 _ (HR.out _ HB0.out) (HM.out _ HB0.out)); rintro e0 w1 ⟨rfl, hb⟩; have HA1 := Lib.hid (arrX_on HA0.out hb); have HB1 := Lib.hid (HB0.out.trans (hb.mono HB0.out.size)); clear hb; obtain ⟨⟨c0, c1⟩, f0, f1⟩ := arrX_two HA1.out))
  have hv4 := HV4.out
  rw [← HML.out] at hv4
  obtain ⟨hE, hO2, hBl⟩ := passX (R := ⟨xs.take P ++ xs.drop (P + 1), 0⟩) HA4.out HB4.out (Nat.le_refl _) hl1 hv4
  rw [HML.out] at hE
  exact bodyPost_ret (v := .agg #[.slice (some ⟨w1.heap.size, 0, none⟩) (M) (M + 1), .int .i64 0]) (results_cell_row (P := Try.prog) Try.results15 _ _ w.heap.size 27 _ (0, 0) _ rfl hE Try.underlying27 rfl (by kernel_rfl)) rfl
    ⟨⟨_, (M + 1), by rw [HML.out], by rw [HML.out] at hO2 ⊢; exact hO2⟩, by rw [HML.out] at hBl; exact hBl⟩
end Go.Proofs.Ytpjmcpfmnlfmdaa
