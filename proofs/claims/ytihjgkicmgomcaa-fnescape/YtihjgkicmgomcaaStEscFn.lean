/- FnEscape's walk. -/
import Derived.Test.YtihjgkicmgomcaaStEscDraws
import Derived.Test.YtihjgkicmgomcaaStPlainLaw
namespace Go.Proofs.Ytihjgkicmgomcaa
set_option linter.unusedSimpArgs false
set_option linter.unusedVariables false
open Go.RowKit

theorem escC_clean (x : UInt8) : ∀ c ∈ escC x, c ≠ 60 ∧ c ≠ 62 ∧ c ≠ 39 ∧ c ≠ 34 := by
  cases h : markB x.toNat
  · rw [escC_not h]
    intro c hc
    simp at hc
    subst hc
    refine ⟨?_, ?_, ?_, ?_⟩ <;> (rintro rfl; exact absurd h (by decide))
  · rw [escC_mark h]
    have hm := mark_sg h
    have : ∀ a ∈ sgL, ∀ c ∈ formL a.toNat, c ≠ 60 ∧ c ≠ 62 ∧ c ≠ 39 ∧ c ≠ 34 := by decide
    exact this x hm
theorem escL_clean (l : List UInt8) : ∀ c ∈ escL l, c ≠ 60 ∧ c ≠ 62 ∧ c ≠ 39 ∧ c ≠ 34 := by
  intro c hc
  obtain ⟨x, _, h⟩ := List.mem_flatMap.1 hc
  exact escC_clean x c h
theorem escS_clean (s : ByteArray) : ∀ j (h : j < (escS s).size), (escS s)[j].toNat ≠ 60 ∧ (escS s)[j].toNat ≠ 62 ∧ (escS s)[j].toNat ≠ 39 ∧ (escS s)[j].toNat ≠ 34 := by
  intro j h
  have key : ∀ c ∈ (escS s).data.toList, c ≠ 60 ∧ c ≠ 62 ∧ c ≠ 39 ∧ c ≠ 34 := by
    unfold escS
    split
    · intro c hc; cases hc
    · rw [strOf_data]; exact escL_clean _
  obtain ⟨h1, h2, h3, h4⟩ := key ((escS s)[j]) (by
    have : (escS s).data.toList[j]'(by rw [size_data]; exact h) = (escS s)[j] := rfl
    rw [← this]; exact List.getElem_mem _)
  have e : ∀ k : UInt8, (escS s)[j] ≠ k → (escS s)[j].toNat ≠ k.toNat := fun k hk e => hk (UInt8.toNat_inj.1 e)
  exact ⟨e 60 h1, e 62 h2, e 39 h3, e 34 h4⟩
theorem escS_len (s : ByteArray) : (escS s).size ≤ 12000 := by
  unfold escS
  split
  · exact Nat.zero_le _
  · rw [strOf_size]
    have := escL_len s.data.toList
    rw [size_data] at this
    omega
theorem plnV_esc {s : ByteArray} (h : s.size ≤ 2000) : plnV (escS s) = textOut s 0 0 := by
  have hl := escS_len s
  have e : (escS s).data.toList = escL s.data.toList := by
    unfold escS
    rw [if_neg (by omega), strOf_data]
  unfold plnV
  obtain ⟨h1, h2⟩ := okP_esc e
  rw [if_neg (by omega), h1, size_data, h2, if_pos (by simpa using h), strOf_toList]
theorem plnV_back (s : ByteArray) : ∃ t c, plnV s = textOut t 0 c ∧ (c = 0 ∧ escS t = s ∧ t.size ≤ 2000 ∨ c ≠ 0) ∧ -1 ≤ c ∧ c ≤ 10 := by
  unfold plnV
  split
  · exact ⟨_, _, rfl, .inr (by decide), by decide, by decide⟩
  · split
    · rename_i h
      unfold okP at h
      simp only [Bool.and_eq_true, decide_eq_true_iff, beq_iff_eq] at h
      refine ⟨_, _, rfl, .inl ⟨rfl, ?_, by rw [strOf_size]; exact h.1⟩, by decide, by decide⟩
      apply WideShapes.bytes_inj
      unfold escS
      rw [strOf_size, if_neg (by omega), strOf_data, strOf_data]
      exact h.2
    · exact ⟨_, _, rfl, .inr (by decide), by decide, by decide⟩
theorem txtS {w W : World} {T : ByteArray} {c : Int} (h : Below (w.alloc (.cells #[.string T, .int .i64 0, .int .i64 c] 26)).heap.size (w.alloc (.cells #[.string T, .int .i64 0, .int .i64 c] 26)) W) :
    (W.cell? ⟨w.heap.size, 0, none⟩ = some (.string T) ∧ W.cell? ⟨w.heap.size, 1, none⟩ = some (.int .i64 0) ∧ W.cell? ⟨w.heap.size, 2, none⟩ = some (.int .i64 c)) ∧ Below (w.alloc (.cells #[.string T, .int .i64 0, .int .i64 c] 26)).heap.size (w.alloc (.cells #[.string T, .int .i64 0, .int .i64 c] 26)) W := by
  obtain ⟨c0, c1, c2, _⟩ := arr_three (arr_below (Arr.fresh w _ _) h)
  exact ⟨⟨c0, c1, c2⟩, h⟩
set_option maxRecDepth 100000 in
set_option maxHeartbeats 4000000 in
/-- The law from its second draw on. -/
theorem escape_fn (a0 : Option Addr) (len0 cap0 : Nat) (a1 : Option Addr) (len1 cap1 : Nat) (w : World) (h0 : len0 ≤ 1048576) (h1 : len1 ≤ 1048576) (r0 : SrcRow w w.heap.size a0 len0) (r1 : SrcRow w w.heap.size a1 len1) :
    Calls Try.prog 3 #[.slice a0 len0 cap0, .slice a1 len1 cap1] w fun e w' => e = .returned (.bool true) ∧ Below w.heap.size w w' := by
  have R0 := Lib.hid r0
  have R1 := Lib.hid r1
  clear r0 r1
  go_enter Try.func3, Try.ntmps3
  go_wp2_with fail
  refine (draw_escape a0 len0 cap0 _ h0 R0.out).mono ?_
  rintro e w1 ⟨⟨_, rfl, t, rfl, ht⟩, hb⟩
  have i1 := fun w => impl_escape t w (by unfold maxLen; omega)
  have i2 := fun w => spec_escape t w (by unfold maxLen; omega)
  have i3 := fun w => impl_plain (escS t) w (by have := escS_len t; unfold maxLen; omega)
  have HC := Lib.hid (escS_clean t)
  have hEl := escS_len t
  have HP : Hid (t.size ≤ 2000 → plnV (escS t) = .agg #[.string t, .int .i64 0, .int .i64 0]) := Lib.hid (fun h => plnV_esc h)
  obtain ⟨E, hE⟩ : ∃ E, E = escS t := ⟨_, rfl⟩
  rw [← hE] at i1 i2 i3 HC hEl HP
  clear hE
  have eE : (E.toList == E.toList) = true := by simp
  have eT : (t.toList == t.toList) = true := by simp
  by_cases h2 : t.size ≤ 2000
  · have hP := HP.out h2
    rw [hP] at i3
    clear hP HP
    go_wp2_with (first
      | (go_at_call 11; go_fit (i1 _); rintro e w2 ⟨rfl, hb2⟩; replace hb := hb.trans (hb2.mono hb.size); clear hb2)
      | (go_at_call 12; go_fit (i2 _); rintro e w2 ⟨rfl, hb2⟩; replace hb := hb.trans (hb2.mono hb.size); clear hb2)
      | (go_at_call 13; go_fit (i3 _); rintro e w2 ⟨rfl, hb2⟩; replace hb := hb.trans (hb2.mono hb.size); clear hb2))
    go_loop [7] (fun i => ∃ k : Nat, k ≤ E.size ∧ i = .int .i64 k) (fun i => E.size - (intOf i).toNat)
    case atStart => exact ⟨0, Nat.zero_le _, rfl⟩
    case round =>
      obtain ⟨k, hk, rfl⟩ := hrel
      by_cases hlt : k < E.size
      · obtain ⟨k1, k2, k3, k4⟩ := HC.out k hlt
        have hc := byte_le E[k]
        have m1 : ((E[k].toNat : Int) == 60) = false := by rw [beq_eq_false_iff_ne]; omega
        have m2 : ((E[k].toNat : Int) == 62) = false := by rw [beq_eq_false_iff_ne]; omega
        have m3 : ((E[k].toNat : Int) == 39) = false := by rw [beq_eq_false_iff_ne]; omega
        have m4 : ((E[k].toNat : Int) == 34) = false := by rw [beq_eq_false_iff_ne]; omega
        clear k1 k2 k3 k4
        go_wp2
        exact ⟨⟨k + 1, hlt, by go_num⟩, by simp [intOf]; omega⟩
      · go_wp2_with fail
        refine (draw_plain a1 len1 cap1 _ h1 (R1.out.lift hb hb.size)).mono ?_
        rintro e w4 ⟨⟨_, rfl, u, rfl, hu⟩, hb4⟩
        have hb5 := hb.trans (hb4.mono hb.size)
        obtain ⟨T, c, hv, hT, c1, c2⟩ := plnV_back u
        have i4 := fun w => impl_plain u w (by unfold maxLen; omega)
        have i5 := fun w => spec_plain_ u w (by unfold maxLen; omega)
        rw [hv] at i4 i5
        unfold textOut at i4 i5
        have eT2 : (T.toList == T.toList) = true := by simp
        have eU : (u.toList == u.toList) = true := by simp
        clear hv hb4 i1 i2 HC hEl eE eT
        rcases hT with ⟨rfl, hT, hTs⟩ | hc0
        · have i6 := fun w => impl_escape T w (by unfold maxLen; omega)
          rw [hT] at i6
          clear hT hTs c1 c2
          go_wp2_with (go_at_call 13; go_fit (i4 _); rintro e w5 ⟨rfl, hb6⟩; replace hb5 := hb5.trans (hb6.mono hb5.size); clear hb6)
          refine wp_region_held_drew (S := (fun W => (W.cell? ⟨w5.heap.size, 0, none⟩ = some (.string T) ∧ W.cell? ⟨w5.heap.size, 1, none⟩ = some (.int .i64 0) ∧ W.cell? ⟨w5.heap.size, 2, none⟩ = some (.int .i64 0)) ∧ Below (w5.alloc (.cells #[.string T, .int .i64 0, .int .i64 0] 26)).heap.size (w5.alloc (.cells #[.string T, .int .i64 0, .int .i64 0] 26)) W)) (by kernel_rfl) (txtS (Below.refl _ _).drew) (fun hHeld => ?_)
          generalize (w5.alloc (.cells #[.string T, .int .i64 0, .int .i64 0] 26)).drew = V at hHeld ⊢
          refine takeH (i := 0) (k := 70) (v := .agg #[.string T, .int .i64 0, .int .i64 0]) rfl (by rfl) (by kernel_rfl) (by kernel_rfl) (by kernel_rfl) (fun _ _ _ h => h) (by rfl) ?_ hHeld ?_
          · intro w hSw; (try dsimp only at hSw); go_simp
          (try simp only [Act.put, List.setIfInBounds_toArray, List.set_cons_zero, List.set_cons_succ])
          refine takeH (i := 1) (k := 71) (v := .string u) rfl (by rfl) (by kernel_rfl) (by kernel_rfl) (by kernel_rfl) (fun _ _ _ h => h) (by rfl) ?_ hHeld ?_
          · intro w hSw; (try dsimp only at hSw); go_simp
          (try simp only [Act.put, List.setIfInBounds_toArray, List.set_cons_zero, List.set_cons_succ])
          refine wpAnyH_ready (rs := [2]) (by kernel_rfl) (by simp) ?_
          refine AllReadyH.cons rfl (fun K hK => ?_) AllReadyH.nil
          rw [if_pos (by rfl)]
          go_simp
          go_fit (i5 _)
          rintro e wm ⟨rfl, hb2⟩
          refine hK.out _ _ (txtS (heldOn hHeld hb2)) (fun hHeld => ?_)
          clear hK K
          (try simp only [Act.put, List.setIfInBounds_toArray, List.set_cons_zero, List.set_cons_succ])
          refine takeH (i := 3) (k := 73) (v := .bool true) rfl (by rfl) (by kernel_rfl) (by kernel_rfl) (by kernel_rfl) (fun _ _ _ h => h) (by rfl) ?_ hHeld ?_
          · intro w hSw; (try dsimp only at hSw); go_simp
          (try simp only [Act.put, List.setIfInBounds_toArray, List.set_cons_zero, List.set_cons_succ])
          refine takeH (i := 4) (k := 74) (v := .bool true) rfl (by rfl) (by kernel_rfl) (by kernel_rfl) (by kernel_rfl) (fun _ _ _ h => h) (by rfl) ?_ hHeld ?_
          · intro w hSw; (try dsimp only at hSw); go_simp
          (try simp only [Act.put, List.setIfInBounds_toArray, List.set_cons_zero, List.set_cons_succ])
          refine takeH (i := 5) (k := 75) (v := .pointer (some ⟨w5.heap.size, 2, none⟩)) rfl (by rfl) (by kernel_rfl) (by kernel_rfl) (by kernel_rfl) (fun _ _ _ h => h) (by rfl) ?_ hHeld ?_
          · intro w hSw; (try dsimp only at hSw); go_simp
          (try simp only [Act.put, List.setIfInBounds_toArray, List.set_cons_zero, List.set_cons_succ])
          refine takeH (i := 6) (k := 76) (v := .int .i64 0) rfl (by rfl) (by kernel_rfl) (by kernel_rfl) (by kernel_rfl) (fun _ _ _ h => h) (by rfl) ?_ hHeld ?_
          · intro w hSw; (try dsimp only at hSw); go_simp
          (try simp only [Act.put, List.setIfInBounds_toArray, List.set_cons_zero, List.set_cons_succ])
          refine takeH (i := 7) (k := 77) (v := .bool false) rfl (by rfl) (by kernel_rfl) (by kernel_rfl) (by kernel_rfl) (fun _ _ _ h => h) (by rfl) ?_ hHeld ?_
          · intro w hSw; (try dsimp only at hSw); go_simp
          (try simp only [Act.put, List.setIfInBounds_toArray, List.set_cons_zero, List.set_cons_succ])
          refine takeH (i := 8) (k := 78) (v := .bool false) rfl (by rfl) (by kernel_rfl) (by kernel_rfl) (by kernel_rfl) (fun _ _ _ h => h) (by rfl) ?_ hHeld ?_
          · intro w hSw; (try dsimp only at hSw); go_simp
          (try simp only [Act.put, List.setIfInBounds_toArray, List.set_cons_zero, List.set_cons_succ])
          refine takeH (i := 9) (k := 79) (v := .pointer (some ⟨w5.heap.size, 0, none⟩)) rfl (by rfl) (by kernel_rfl) (by kernel_rfl) (by kernel_rfl) (fun _ _ _ h => h) (by rfl) ?_ hHeld ?_
          · intro w hSw; (try dsimp only at hSw); go_simp
          (try simp only [Act.put, List.setIfInBounds_toArray, List.set_cons_zero, List.set_cons_succ])
          refine takeH (i := 10) (k := 80) (v := .string T) rfl (by rfl) (by kernel_rfl) (by kernel_rfl) (by kernel_rfl) (fun _ _ _ h => h) (by rfl) ?_ hHeld ?_
          · intro w hSw; (try dsimp only at hSw); go_simp
          (try simp only [Act.put, List.setIfInBounds_toArray, List.set_cons_zero, List.set_cons_succ])
          refine takeH (i := 12) (k := 82) (v := .string u) rfl (by rfl) (by kernel_rfl) (by kernel_rfl) (by kernel_rfl) (fun _ _ _ h => h) (by rfl) ?_ hHeld ?_
          · intro w hSw; (try dsimp only at hSw); go_simp
          (try simp only [Act.put, List.setIfInBounds_toArray, List.set_cons_zero, List.set_cons_succ])
          refine wpAnyH_ready (rs := [11]) (by kernel_rfl) (by simp) ?_
          refine AllReadyH.cons rfl (fun K hK => ?_) AllReadyH.nil
          rw [if_pos (by rfl)]
          go_simp
          go_fit (i6 _)
          rintro e wm ⟨rfl, hb2⟩
          refine hK.out _ _ (txtS (heldOn hHeld hb2)) (fun hHeld => ?_)
          clear hK K
          (try simp only [Act.put, List.setIfInBounds_toArray, List.set_cons_zero, List.set_cons_succ])
          refine takeH (i := 13) (k := 83) (v := .bool true) rfl (by rfl) (by kernel_rfl) (by kernel_rfl) (by kernel_rfl) (fun _ _ _ h => h) (by rfl) ?_ hHeld ?_
          · intro w hSw; (try dsimp only at hSw); go_simp
          (try simp only [Act.put, List.setIfInBounds_toArray, List.set_cons_zero, List.set_cons_succ])
          refine takeH (i := 14) (k := 84) (v := .bool true) rfl (by rfl) (by kernel_rfl) (by kernel_rfl) (by kernel_rfl) (fun _ _ _ h => h) (by rfl) ?_ hHeld ?_
          · intro w hSw; (try dsimp only at hSw); go_simp
          (try simp only [Act.put, List.setIfInBounds_toArray, List.set_cons_zero, List.set_cons_succ])
          refine takeH (i := 15) (k := 85) (v := .bool true) rfl (by rfl) (by kernel_rfl) (by kernel_rfl) (by kernel_rfl) (fun _ _ _ h => h) (by rfl) ?_ hHeld ?_
          · intro w hSw; (try dsimp only at hSw); go_simp
          (try simp only [Act.put, List.setIfInBounds_toArray, List.set_cons_zero, List.set_cons_succ])
          refine takeH (i := 16) (k := 4) (v := .bool true) rfl (by rfl) (by kernel_rfl) (by kernel_rfl) (by kernel_rfl) (fun _ _ _ h => h) (by rfl) ?_ hHeld ?_
          · intro w hSw; (try dsimp only at hSw); go_simp
          (try simp only [Act.put, List.setIfInBounds_toArray, List.set_cons_zero, List.set_cons_succ])
          refine wpAnyH_done (by kernel_rfl) ?_ _
          have HB := Lib.hid (hb5.trans ((below_one hHeld.2).mono hb5.size))
          clear hHeld
          go_wp2
          go_ret
          exact ⟨rfl, HB.out⟩
        · go_wp2_with (go_at_call 13; go_fit (i4 _); rintro e w5 ⟨rfl, hb6⟩; replace hb5 := hb5.trans (hb6.mono hb5.size); clear hb6)
          refine wp_region_held_drew (S := (fun W => (W.cell? ⟨w5.heap.size, 0, none⟩ = some (.string T) ∧ W.cell? ⟨w5.heap.size, 1, none⟩ = some (.int .i64 0) ∧ W.cell? ⟨w5.heap.size, 2, none⟩ = some (.int .i64 c)) ∧ Below (w5.alloc (.cells #[.string T, .int .i64 0, .int .i64 c] 26)).heap.size (w5.alloc (.cells #[.string T, .int .i64 0, .int .i64 c] 26)) W)) (by kernel_rfl) (txtS (Below.refl _ _).drew) (fun hHeld => ?_)
          generalize (w5.alloc (.cells #[.string T, .int .i64 0, .int .i64 c] 26)).drew = V at hHeld ⊢
          refine takeH (i := 0) (k := 70) (v := .agg #[.string T, .int .i64 0, .int .i64 c]) rfl (by rfl) (by kernel_rfl) (by kernel_rfl) (by kernel_rfl) (fun _ _ _ h => h) (by rfl) ?_ hHeld ?_
          · intro w hSw; (try dsimp only at hSw); go_simp
          (try simp only [Act.put, List.setIfInBounds_toArray, List.set_cons_zero, List.set_cons_succ])
          refine takeH (i := 1) (k := 71) (v := .string u) rfl (by rfl) (by kernel_rfl) (by kernel_rfl) (by kernel_rfl) (fun _ _ _ h => h) (by rfl) ?_ hHeld ?_
          · intro w hSw; (try dsimp only at hSw); go_simp
          (try simp only [Act.put, List.setIfInBounds_toArray, List.set_cons_zero, List.set_cons_succ])
          refine wpAnyH_ready (rs := [2]) (by kernel_rfl) (by simp) ?_
          refine AllReadyH.cons rfl (fun K hK => ?_) AllReadyH.nil
          rw [if_pos (by rfl)]
          go_simp
          go_fit (i5 _)
          rintro e wm ⟨rfl, hb2⟩
          refine hK.out _ _ (txtS (heldOn hHeld hb2)) (fun hHeld => ?_)
          clear hK K
          (try simp only [Act.put, List.setIfInBounds_toArray, List.set_cons_zero, List.set_cons_succ])
          refine takeH (i := 3) (k := 73) (v := .bool true) rfl (by rfl) (by kernel_rfl) (by kernel_rfl) (by kernel_rfl) (fun _ _ _ h => h) (by rfl) ?_ hHeld ?_
          · intro w hSw; (try dsimp only at hSw); go_simp
          (try simp only [Act.put, List.setIfInBounds_toArray, List.set_cons_zero, List.set_cons_succ])
          refine takeH (i := 4) (k := 74) (v := .bool true) rfl (by rfl) (by kernel_rfl) (by kernel_rfl) (by kernel_rfl) (fun _ _ _ h => h) (by rfl) ?_ hHeld ?_
          · intro w hSw; (try dsimp only at hSw); go_simp
          (try simp only [Act.put, List.setIfInBounds_toArray, List.set_cons_zero, List.set_cons_succ])
          refine takeH (i := 5) (k := 75) (v := .pointer (some ⟨w5.heap.size, 2, none⟩)) rfl (by rfl) (by kernel_rfl) (by kernel_rfl) (by kernel_rfl) (fun _ _ _ h => h) (by rfl) ?_ hHeld ?_
          · intro w hSw; (try dsimp only at hSw); go_simp
          (try simp only [Act.put, List.setIfInBounds_toArray, List.set_cons_zero, List.set_cons_succ])
          refine takeH (i := 6) (k := 76) (v := .int .i64 c) rfl (by rfl) (by kernel_rfl) (by kernel_rfl) (by kernel_rfl) (fun _ _ _ h => h) (by rfl) ?_ hHeld ?_
          · intro w hSw; (try dsimp only at hSw); go_simp
          (try simp only [Act.put, List.setIfInBounds_toArray, List.set_cons_zero, List.set_cons_succ])
          refine takeH (i := 7) (k := 77) (v := .bool true) rfl (by rfl) (by kernel_rfl) (by kernel_rfl) (by kernel_rfl) (fun _ _ _ h => h) (by rfl) ?_ hHeld ?_
          · intro w hSw; (try dsimp only at hSw); go_simp
          (try simp only [Act.put, List.setIfInBounds_toArray, List.set_cons_zero, List.set_cons_succ])
          refine takeH (i := 8) (k := 78) (v := .bool true) rfl (by rfl) (by kernel_rfl) (by kernel_rfl) (by kernel_rfl) (fun _ _ _ h => h) (by rfl) ?_ hHeld ?_
          · intro w hSw; (try dsimp only at hSw); go_simp
          (try simp only [Act.put, List.setIfInBounds_toArray, List.set_cons_zero, List.set_cons_succ])
          refine skipH (i := 9) (k := 79) rfl (by rfl) (by kernel_rfl) (by kernel_rfl) (by kernel_rfl) (fun _ _ _ h => h) (by rfl) hHeld ?_
          (try simp only [Act.put, List.setIfInBounds_toArray, List.set_cons_zero, List.set_cons_succ])
          refine skipH (i := 10) (k := 80) rfl (by rfl) (by kernel_rfl) (by kernel_rfl) (by kernel_rfl) (fun _ _ _ h => h) (by rfl) hHeld ?_
          (try simp only [Act.put, List.setIfInBounds_toArray, List.set_cons_zero, List.set_cons_succ])
          refine skipH (i := 11) (k := 81) rfl (by rfl) (by kernel_rfl) (by kernel_rfl) (by kernel_rfl) (fun _ _ _ h => h) (by rfl) hHeld ?_
          (try simp only [Act.put, List.setIfInBounds_toArray, List.set_cons_zero, List.set_cons_succ])
          refine skipH (i := 12) (k := 82) rfl (by rfl) (by kernel_rfl) (by kernel_rfl) (by kernel_rfl) (fun _ _ _ h => h) (by rfl) hHeld ?_
          (try simp only [Act.put, List.setIfInBounds_toArray, List.set_cons_zero, List.set_cons_succ])
          refine skipH (i := 13) (k := 83) rfl (by rfl) (by kernel_rfl) (by kernel_rfl) (by kernel_rfl) (fun _ _ _ h => h) (by rfl) hHeld ?_
          (try simp only [Act.put, List.setIfInBounds_toArray, List.set_cons_zero, List.set_cons_succ])
          refine takeH (i := 14) (k := 84) (v := .bool true) rfl (by rfl) (by kernel_rfl) (by kernel_rfl) (by kernel_rfl) (fun _ _ _ h => h) (by rfl) ?_ hHeld ?_
          · intro w hSw; (try dsimp only at hSw); go_simp
          (try simp only [Act.put, List.setIfInBounds_toArray, List.set_cons_zero, List.set_cons_succ])
          refine takeH (i := 15) (k := 85) (v := .bool true) rfl (by rfl) (by kernel_rfl) (by kernel_rfl) (by kernel_rfl) (fun _ _ _ h => h) (by rfl) ?_ hHeld ?_
          · intro w hSw; (try dsimp only at hSw); go_simp
          (try simp only [Act.put, List.setIfInBounds_toArray, List.set_cons_zero, List.set_cons_succ])
          refine takeH (i := 16) (k := 4) (v := .bool true) rfl (by rfl) (by kernel_rfl) (by kernel_rfl) (by kernel_rfl) (fun _ _ _ h => h) (by rfl) ?_ hHeld ?_
          · intro w hSw; (try dsimp only at hSw); go_simp
          (try simp only [Act.put, List.setIfInBounds_toArray, List.set_cons_zero, List.set_cons_succ])
          refine wpAnyH_done (by kernel_rfl) ?_ _
          have HB := Lib.hid (hb5.trans ((below_one hHeld.2).mono hb5.size))
          clear hHeld
          go_wp2
          go_ret
          exact ⟨rfl, HB.out⟩
  · clear HP i3
    go_wp2_with (first
      | (go_at_call 11; go_fit (i1 _); rintro e w2 ⟨rfl, hb2⟩; replace hb := hb.trans (hb2.mono hb.size); clear hb2)
      | (go_at_call 12; go_fit (i2 _); rintro e w2 ⟨rfl, hb2⟩; replace hb := hb.trans (hb2.mono hb.size); clear hb2))
    go_loop [7] (fun i => ∃ k : Nat, k ≤ E.size ∧ i = .int .i64 k) (fun i => E.size - (intOf i).toNat)
    case atStart => exact ⟨0, Nat.zero_le _, rfl⟩
    case round =>
      obtain ⟨k, hk, rfl⟩ := hrel
      by_cases hlt : k < E.size
      · obtain ⟨k1, k2, k3, k4⟩ := HC.out k hlt
        have hc := byte_le E[k]
        have m1 : ((E[k].toNat : Int) == 60) = false := by rw [beq_eq_false_iff_ne]; omega
        have m2 : ((E[k].toNat : Int) == 62) = false := by rw [beq_eq_false_iff_ne]; omega
        have m3 : ((E[k].toNat : Int) == 39) = false := by rw [beq_eq_false_iff_ne]; omega
        have m4 : ((E[k].toNat : Int) == 34) = false := by rw [beq_eq_false_iff_ne]; omega
        clear k1 k2 k3 k4
        go_wp2
        exact ⟨⟨k + 1, hlt, by go_num⟩, by simp [intOf]; omega⟩
      · go_wp2_with fail
        refine (draw_plain a1 len1 cap1 _ h1 (R1.out.lift hb hb.size)).mono ?_
        rintro e w4 ⟨⟨_, rfl, u, rfl, hu⟩, hb4⟩
        have hb5 := hb.trans (hb4.mono hb.size)
        obtain ⟨T, c, hv, hT, c1, c2⟩ := plnV_back u
        have i4 := fun w => impl_plain u w (by unfold maxLen; omega)
        have i5 := fun w => spec_plain_ u w (by unfold maxLen; omega)
        rw [hv] at i4 i5
        unfold textOut at i4 i5
        have eT2 : (T.toList == T.toList) = true := by simp
        have eU : (u.toList == u.toList) = true := by simp
        clear hv hb4 i1 i2 HC hEl eE eT
        rcases hT with ⟨rfl, hT, hTs⟩ | hc0
        · have i6 := fun w => impl_escape T w (by unfold maxLen; omega)
          rw [hT] at i6
          clear hT hTs c1 c2
          go_wp2_with (go_at_call 13; go_fit (i4 _); rintro e w5 ⟨rfl, hb6⟩; replace hb5 := hb5.trans (hb6.mono hb5.size); clear hb6)
          refine wp_region_held_drew (S := (fun W => (W.cell? ⟨w5.heap.size, 0, none⟩ = some (.string T) ∧ W.cell? ⟨w5.heap.size, 1, none⟩ = some (.int .i64 0) ∧ W.cell? ⟨w5.heap.size, 2, none⟩ = some (.int .i64 0)) ∧ Below (w5.alloc (.cells #[.string T, .int .i64 0, .int .i64 0] 26)).heap.size (w5.alloc (.cells #[.string T, .int .i64 0, .int .i64 0] 26)) W)) (by kernel_rfl) (txtS (Below.refl _ _).drew) (fun hHeld => ?_)
          generalize (w5.alloc (.cells #[.string T, .int .i64 0, .int .i64 0] 26)).drew = V at hHeld ⊢
          refine takeH (i := 0) (k := 70) (v := .agg #[.string T, .int .i64 0, .int .i64 0]) rfl (by rfl) (by kernel_rfl) (by kernel_rfl) (by kernel_rfl) (fun _ _ _ h => h) (by rfl) ?_ hHeld ?_
          · intro w hSw; (try dsimp only at hSw); go_simp
          (try simp only [Act.put, List.setIfInBounds_toArray, List.set_cons_zero, List.set_cons_succ])
          refine takeH (i := 1) (k := 71) (v := .string u) rfl (by rfl) (by kernel_rfl) (by kernel_rfl) (by kernel_rfl) (fun _ _ _ h => h) (by rfl) ?_ hHeld ?_
          · intro w hSw; (try dsimp only at hSw); go_simp
          (try simp only [Act.put, List.setIfInBounds_toArray, List.set_cons_zero, List.set_cons_succ])
          refine wpAnyH_ready (rs := [2]) (by kernel_rfl) (by simp) ?_
          refine AllReadyH.cons rfl (fun K hK => ?_) AllReadyH.nil
          rw [if_pos (by rfl)]
          go_simp
          go_fit (i5 _)
          rintro e wm ⟨rfl, hb2⟩
          refine hK.out _ _ (txtS (heldOn hHeld hb2)) (fun hHeld => ?_)
          clear hK K
          (try simp only [Act.put, List.setIfInBounds_toArray, List.set_cons_zero, List.set_cons_succ])
          refine takeH (i := 3) (k := 73) (v := .bool true) rfl (by rfl) (by kernel_rfl) (by kernel_rfl) (by kernel_rfl) (fun _ _ _ h => h) (by rfl) ?_ hHeld ?_
          · intro w hSw; (try dsimp only at hSw); go_simp
          (try simp only [Act.put, List.setIfInBounds_toArray, List.set_cons_zero, List.set_cons_succ])
          refine takeH (i := 4) (k := 74) (v := .bool true) rfl (by rfl) (by kernel_rfl) (by kernel_rfl) (by kernel_rfl) (fun _ _ _ h => h) (by rfl) ?_ hHeld ?_
          · intro w hSw; (try dsimp only at hSw); go_simp
          (try simp only [Act.put, List.setIfInBounds_toArray, List.set_cons_zero, List.set_cons_succ])
          refine takeH (i := 5) (k := 75) (v := .pointer (some ⟨w5.heap.size, 2, none⟩)) rfl (by rfl) (by kernel_rfl) (by kernel_rfl) (by kernel_rfl) (fun _ _ _ h => h) (by rfl) ?_ hHeld ?_
          · intro w hSw; (try dsimp only at hSw); go_simp
          (try simp only [Act.put, List.setIfInBounds_toArray, List.set_cons_zero, List.set_cons_succ])
          refine takeH (i := 6) (k := 76) (v := .int .i64 0) rfl (by rfl) (by kernel_rfl) (by kernel_rfl) (by kernel_rfl) (fun _ _ _ h => h) (by rfl) ?_ hHeld ?_
          · intro w hSw; (try dsimp only at hSw); go_simp
          (try simp only [Act.put, List.setIfInBounds_toArray, List.set_cons_zero, List.set_cons_succ])
          refine takeH (i := 7) (k := 77) (v := .bool false) rfl (by rfl) (by kernel_rfl) (by kernel_rfl) (by kernel_rfl) (fun _ _ _ h => h) (by rfl) ?_ hHeld ?_
          · intro w hSw; (try dsimp only at hSw); go_simp
          (try simp only [Act.put, List.setIfInBounds_toArray, List.set_cons_zero, List.set_cons_succ])
          refine takeH (i := 8) (k := 78) (v := .bool false) rfl (by rfl) (by kernel_rfl) (by kernel_rfl) (by kernel_rfl) (fun _ _ _ h => h) (by rfl) ?_ hHeld ?_
          · intro w hSw; (try dsimp only at hSw); go_simp
          (try simp only [Act.put, List.setIfInBounds_toArray, List.set_cons_zero, List.set_cons_succ])
          refine takeH (i := 9) (k := 79) (v := .pointer (some ⟨w5.heap.size, 0, none⟩)) rfl (by rfl) (by kernel_rfl) (by kernel_rfl) (by kernel_rfl) (fun _ _ _ h => h) (by rfl) ?_ hHeld ?_
          · intro w hSw; (try dsimp only at hSw); go_simp
          (try simp only [Act.put, List.setIfInBounds_toArray, List.set_cons_zero, List.set_cons_succ])
          refine takeH (i := 10) (k := 80) (v := .string T) rfl (by rfl) (by kernel_rfl) (by kernel_rfl) (by kernel_rfl) (fun _ _ _ h => h) (by rfl) ?_ hHeld ?_
          · intro w hSw; (try dsimp only at hSw); go_simp
          (try simp only [Act.put, List.setIfInBounds_toArray, List.set_cons_zero, List.set_cons_succ])
          refine takeH (i := 12) (k := 82) (v := .string u) rfl (by rfl) (by kernel_rfl) (by kernel_rfl) (by kernel_rfl) (fun _ _ _ h => h) (by rfl) ?_ hHeld ?_
          · intro w hSw; (try dsimp only at hSw); go_simp
          (try simp only [Act.put, List.setIfInBounds_toArray, List.set_cons_zero, List.set_cons_succ])
          refine wpAnyH_ready (rs := [11]) (by kernel_rfl) (by simp) ?_
          refine AllReadyH.cons rfl (fun K hK => ?_) AllReadyH.nil
          rw [if_pos (by rfl)]
          go_simp
          go_fit (i6 _)
          rintro e wm ⟨rfl, hb2⟩
          refine hK.out _ _ (txtS (heldOn hHeld hb2)) (fun hHeld => ?_)
          clear hK K
          (try simp only [Act.put, List.setIfInBounds_toArray, List.set_cons_zero, List.set_cons_succ])
          refine takeH (i := 13) (k := 83) (v := .bool true) rfl (by rfl) (by kernel_rfl) (by kernel_rfl) (by kernel_rfl) (fun _ _ _ h => h) (by rfl) ?_ hHeld ?_
          · intro w hSw; (try dsimp only at hSw); go_simp
          (try simp only [Act.put, List.setIfInBounds_toArray, List.set_cons_zero, List.set_cons_succ])
          refine takeH (i := 14) (k := 84) (v := .bool true) rfl (by rfl) (by kernel_rfl) (by kernel_rfl) (by kernel_rfl) (fun _ _ _ h => h) (by rfl) ?_ hHeld ?_
          · intro w hSw; (try dsimp only at hSw); go_simp
          (try simp only [Act.put, List.setIfInBounds_toArray, List.set_cons_zero, List.set_cons_succ])
          refine takeH (i := 15) (k := 85) (v := .bool true) rfl (by rfl) (by kernel_rfl) (by kernel_rfl) (by kernel_rfl) (fun _ _ _ h => h) (by rfl) ?_ hHeld ?_
          · intro w hSw; (try dsimp only at hSw); go_simp
          (try simp only [Act.put, List.setIfInBounds_toArray, List.set_cons_zero, List.set_cons_succ])
          refine takeH (i := 16) (k := 4) (v := .bool true) rfl (by rfl) (by kernel_rfl) (by kernel_rfl) (by kernel_rfl) (fun _ _ _ h => h) (by rfl) ?_ hHeld ?_
          · intro w hSw; (try dsimp only at hSw); go_simp
          (try simp only [Act.put, List.setIfInBounds_toArray, List.set_cons_zero, List.set_cons_succ])
          refine wpAnyH_done (by kernel_rfl) ?_ _
          have HB := Lib.hid (hb5.trans ((below_one hHeld.2).mono hb5.size))
          clear hHeld
          go_wp2
          go_ret
          exact ⟨rfl, HB.out⟩
        · go_wp2_with (go_at_call 13; go_fit (i4 _); rintro e w5 ⟨rfl, hb6⟩; replace hb5 := hb5.trans (hb6.mono hb5.size); clear hb6)
          refine wp_region_held_drew (S := (fun W => (W.cell? ⟨w5.heap.size, 0, none⟩ = some (.string T) ∧ W.cell? ⟨w5.heap.size, 1, none⟩ = some (.int .i64 0) ∧ W.cell? ⟨w5.heap.size, 2, none⟩ = some (.int .i64 c)) ∧ Below (w5.alloc (.cells #[.string T, .int .i64 0, .int .i64 c] 26)).heap.size (w5.alloc (.cells #[.string T, .int .i64 0, .int .i64 c] 26)) W)) (by kernel_rfl) (txtS (Below.refl _ _).drew) (fun hHeld => ?_)
          generalize (w5.alloc (.cells #[.string T, .int .i64 0, .int .i64 c] 26)).drew = V at hHeld ⊢
          refine takeH (i := 0) (k := 70) (v := .agg #[.string T, .int .i64 0, .int .i64 c]) rfl (by rfl) (by kernel_rfl) (by kernel_rfl) (by kernel_rfl) (fun _ _ _ h => h) (by rfl) ?_ hHeld ?_
          · intro w hSw; (try dsimp only at hSw); go_simp
          (try simp only [Act.put, List.setIfInBounds_toArray, List.set_cons_zero, List.set_cons_succ])
          refine takeH (i := 1) (k := 71) (v := .string u) rfl (by rfl) (by kernel_rfl) (by kernel_rfl) (by kernel_rfl) (fun _ _ _ h => h) (by rfl) ?_ hHeld ?_
          · intro w hSw; (try dsimp only at hSw); go_simp
          (try simp only [Act.put, List.setIfInBounds_toArray, List.set_cons_zero, List.set_cons_succ])
          refine wpAnyH_ready (rs := [2]) (by kernel_rfl) (by simp) ?_
          refine AllReadyH.cons rfl (fun K hK => ?_) AllReadyH.nil
          rw [if_pos (by rfl)]
          go_simp
          go_fit (i5 _)
          rintro e wm ⟨rfl, hb2⟩
          refine hK.out _ _ (txtS (heldOn hHeld hb2)) (fun hHeld => ?_)
          clear hK K
          (try simp only [Act.put, List.setIfInBounds_toArray, List.set_cons_zero, List.set_cons_succ])
          refine takeH (i := 3) (k := 73) (v := .bool true) rfl (by rfl) (by kernel_rfl) (by kernel_rfl) (by kernel_rfl) (fun _ _ _ h => h) (by rfl) ?_ hHeld ?_
          · intro w hSw; (try dsimp only at hSw); go_simp
          (try simp only [Act.put, List.setIfInBounds_toArray, List.set_cons_zero, List.set_cons_succ])
          refine takeH (i := 4) (k := 74) (v := .bool true) rfl (by rfl) (by kernel_rfl) (by kernel_rfl) (by kernel_rfl) (fun _ _ _ h => h) (by rfl) ?_ hHeld ?_
          · intro w hSw; (try dsimp only at hSw); go_simp
          (try simp only [Act.put, List.setIfInBounds_toArray, List.set_cons_zero, List.set_cons_succ])
          refine takeH (i := 5) (k := 75) (v := .pointer (some ⟨w5.heap.size, 2, none⟩)) rfl (by rfl) (by kernel_rfl) (by kernel_rfl) (by kernel_rfl) (fun _ _ _ h => h) (by rfl) ?_ hHeld ?_
          · intro w hSw; (try dsimp only at hSw); go_simp
          (try simp only [Act.put, List.setIfInBounds_toArray, List.set_cons_zero, List.set_cons_succ])
          refine takeH (i := 6) (k := 76) (v := .int .i64 c) rfl (by rfl) (by kernel_rfl) (by kernel_rfl) (by kernel_rfl) (fun _ _ _ h => h) (by rfl) ?_ hHeld ?_
          · intro w hSw; (try dsimp only at hSw); go_simp
          (try simp only [Act.put, List.setIfInBounds_toArray, List.set_cons_zero, List.set_cons_succ])
          refine takeH (i := 7) (k := 77) (v := .bool true) rfl (by rfl) (by kernel_rfl) (by kernel_rfl) (by kernel_rfl) (fun _ _ _ h => h) (by rfl) ?_ hHeld ?_
          · intro w hSw; (try dsimp only at hSw); go_simp
          (try simp only [Act.put, List.setIfInBounds_toArray, List.set_cons_zero, List.set_cons_succ])
          refine takeH (i := 8) (k := 78) (v := .bool true) rfl (by rfl) (by kernel_rfl) (by kernel_rfl) (by kernel_rfl) (fun _ _ _ h => h) (by rfl) ?_ hHeld ?_
          · intro w hSw; (try dsimp only at hSw); go_simp
          (try simp only [Act.put, List.setIfInBounds_toArray, List.set_cons_zero, List.set_cons_succ])
          refine skipH (i := 9) (k := 79) rfl (by rfl) (by kernel_rfl) (by kernel_rfl) (by kernel_rfl) (fun _ _ _ h => h) (by rfl) hHeld ?_
          (try simp only [Act.put, List.setIfInBounds_toArray, List.set_cons_zero, List.set_cons_succ])
          refine skipH (i := 10) (k := 80) rfl (by rfl) (by kernel_rfl) (by kernel_rfl) (by kernel_rfl) (fun _ _ _ h => h) (by rfl) hHeld ?_
          (try simp only [Act.put, List.setIfInBounds_toArray, List.set_cons_zero, List.set_cons_succ])
          refine skipH (i := 11) (k := 81) rfl (by rfl) (by kernel_rfl) (by kernel_rfl) (by kernel_rfl) (fun _ _ _ h => h) (by rfl) hHeld ?_
          (try simp only [Act.put, List.setIfInBounds_toArray, List.set_cons_zero, List.set_cons_succ])
          refine skipH (i := 12) (k := 82) rfl (by rfl) (by kernel_rfl) (by kernel_rfl) (by kernel_rfl) (fun _ _ _ h => h) (by rfl) hHeld ?_
          (try simp only [Act.put, List.setIfInBounds_toArray, List.set_cons_zero, List.set_cons_succ])
          refine skipH (i := 13) (k := 83) rfl (by rfl) (by kernel_rfl) (by kernel_rfl) (by kernel_rfl) (fun _ _ _ h => h) (by rfl) hHeld ?_
          (try simp only [Act.put, List.setIfInBounds_toArray, List.set_cons_zero, List.set_cons_succ])
          refine takeH (i := 14) (k := 84) (v := .bool true) rfl (by rfl) (by kernel_rfl) (by kernel_rfl) (by kernel_rfl) (fun _ _ _ h => h) (by rfl) ?_ hHeld ?_
          · intro w hSw; (try dsimp only at hSw); go_simp
          (try simp only [Act.put, List.setIfInBounds_toArray, List.set_cons_zero, List.set_cons_succ])
          refine takeH (i := 15) (k := 85) (v := .bool true) rfl (by rfl) (by kernel_rfl) (by kernel_rfl) (by kernel_rfl) (fun _ _ _ h => h) (by rfl) ?_ hHeld ?_
          · intro w hSw; (try dsimp only at hSw); go_simp
          (try simp only [Act.put, List.setIfInBounds_toArray, List.set_cons_zero, List.set_cons_succ])
          refine takeH (i := 16) (k := 4) (v := .bool true) rfl (by rfl) (by kernel_rfl) (by kernel_rfl) (by kernel_rfl) (fun _ _ _ h => h) (by rfl) ?_ hHeld ?_
          · intro w hSw; (try dsimp only at hSw); go_simp
          (try simp only [Act.put, List.setIfInBounds_toArray, List.set_cons_zero, List.set_cons_succ])
          refine wpAnyH_done (by kernel_rfl) ?_ _
          have HB := Lib.hid (hb5.trans ((below_one hHeld.2).mono hb5.size))
          clear hHeld
          go_wp2
          go_ret
          exact ⟨rfl, HB.out⟩
end Go.Proofs.Ytihjgkicmgomcaa
