/- What impl.isAddress and spec.l04Address answer. -/
import Derived.Test.YtpjmcpfmnlfmdaaStSmall
import Derived.Test.YtpjmcpfmnlfmdaaJidReadMore
namespace Go.Proofs.Ytpjmcpfmnlfmdaa
set_option linter.unusedSimpArgs false
set_option linter.unusedVariables false
open Go.RowKit

theorem addr_big {t : ByteArray} (h : 20000 < t.size) : addrB t = false := by
  cases hA : addrB t
  · rfl
  · exfalso
    unfold addrB goodR at hA
    simp only [Bool.and_eq_true] at hA
    obtain ⟨⟨_, hj⟩, he⟩ := hA
    have h1 := (text_some hj).2
    have h2 := beq_iff_eq.1 he
    rw [ByteArray.toList_eq, ByteArray.toList_eq] at h2
    have h3 := congrArg List.length h2
    rw [size_data, size_data] at h3
    omega
theorem addr_bad {t : ByteArray} (h : goodR t.data.toList = false) : addrB t = false := by unfold addrB; rw [h]; rfl

set_option maxRecDepth 100000 in
set_option maxHeartbeats 2000000 in
theorem impl_address (s : ByteArray) (w : World) (hs : s.size ≤ maxLen) (hm : MaxL w) :
    Calls Try.prog 45 #[.string s] w fun e w' => e = .returned (.bool (addrB s)) ∧ Below w.heap.size w w' := by
  have i1 := impl_read s w hs hm
  unfold jidReadV at i1
  by_cases hbig : 20000 < s.size
  · rw [if_pos hbig] at i1
    unfold jo at i1
    rw [addr_big hbig]
    clear hm
    go_enter Try.func45, Try.ntmps45
    go_wp2_with (go_at_call 56; go_fit i1; rintro e w1 ⟨rfl, hb⟩)
    go_ret
    exact ⟨rfl, hb.alloc hb.size _⟩
  · rw [if_neg hbig] at i1
    cases hg : goodR s.data.toList
    · rw [hg, if_neg Bool.false_ne_true] at i1
      unfold jo at i1
      rw [addr_bad hg]
      clear hm hg
      go_enter Try.func45, Try.ntmps45
      go_wp2_with (go_at_call 56; go_fit i1; rintro e w1 ⟨rfl, hb⟩)
      go_ret
      exact ⟨rfl, hb.alloc hb.size _⟩
    · rw [hg, if_pos rfl] at i1
      unfold addrB
      rw [hg, Bool.true_and]
      have hj : jidB (strOf (readL s.data.toList).1) (strOf (readL s.data.toList).2.1) (strOf (readL s.data.toList).2.2) = true := by
        unfold goodR at hg
        simp only [Bool.and_eq_true] at hg
        exact hg.2
      obtain ⟨l, hl⟩ : ∃ l, l = strOf (readL s.data.toList).1 := ⟨_, rfl⟩
      obtain ⟨d, hd⟩ : ∃ d, d = strOf (readL s.data.toList).2.1 := ⟨_, rfl⟩
      obtain ⟨r, hr⟩ : ∃ r, r = strOf (readL s.data.toList).2.2 := ⟨_, rfl⟩
      rw [← hl, ← hd, ← hr] at i1 hj ⊢
      unfold jo at i1
      obtain ⟨z1, z2, z3⟩ := right_le hj
      have i2 := fun w => impl_text l d r w (by unfold maxLen; omega) (by unfold maxLen; omega) (by unfold maxLen; omega)
      rw [jidTextS_yes hj] at i2
      obtain ⟨X, hX⟩ : ∃ X, X = jidT l d r := ⟨_, rfl⟩
      rw [← hX] at i2 ⊢
      obtain ⟨b, hb0⟩ : ∃ b, (X.toList == s.toList) = b := ⟨_, rfl⟩
      rw [hb0]
      have HM := Lib.hid (fun W (h : Below w.heap.size w W) => hm.below h hm.pos)
      clear hm hg hj hl hd hr hX
      cases b <;>
      · go_enter Try.func45, Try.ntmps45
        go_wp2_with (first
          | (go_at_call 56; go_fit i1; rintro e w1 ⟨rfl, hb⟩)
          | (go_at_call 75; go_fit (i2 _ (HM.out _ (hb.alloc hb.size _))); rintro e w2 ⟨rfl, hb2⟩; replace hb := hb.trans ((below_one hb2).mono hb.size)))
        go_ret
        exact ⟨rfl, hb⟩

/-- What stands while a result of three cells, at ra, is set from a box of three, at rb. -/
abbrev CopyS (w : World) (ra rb : Nat) (x y z : ByteArray) (W : World) : Prop :=
  (W.cell? ⟨rb, 0, none⟩ = some (.string x) ∧ W.cell? ⟨rb, 1, none⟩ = some (.string y) ∧ W.cell? ⟨rb, 2, none⟩ = some (.string z) ∧
   W.cell? ⟨ra, 0, none⟩ = some (cellAt W ra 0) ∧ W.cell? ⟨ra, 1, none⟩ = some (cellAt W ra 1) ∧ W.cell? ⟨ra, 2, none⟩ = some (cellAt W ra 2) ∧
   W.frozen? ⟨ra, 0, none⟩ = false ∧ W.frozen? ⟨ra, 1, none⟩ = false ∧ W.frozen? ⟨ra, 2, none⟩ = false) ∧
  (Below w.heap.size w W ∧ Arr W rb 69 [.string x, .string y, .string z] ∧ Res W ra)
theorem copyS {w W : World} {ra rb : Nat} {x y z : ByteArray} (hb : Below w.heap.size w W) (hA : Arr W rb 69 [.string x, .string y, .string z]) (hr : Res W ra) : CopyS w ra rb x y z W := by
  obtain ⟨c0, c1, c2, _, _, _⟩ := arr_three hA
  obtain ⟨a, b, c, hR⟩ := id hr
  have e : ∀ i v, W.cell? ⟨ra, i, none⟩ = some v → W.cell? ⟨ra, i, none⟩ = some (cellAt W ra i) := fun i v h => by unfold cellAt; rw [h]; rfl
  exact ⟨⟨c0, c1, c2, e 0 a (hR.cell 0), e 1 b (hR.cell 1), e 2 c (hR.cell 2), hR.free 0, hR.free 1, hR.free 2⟩, hb, hA, hr⟩
theorem copyS_on {w W w2 : World} {ra rb : Nat} {x y z : ByteArray} {S : Prop} (h : S ∧ (Below w.heap.size w W ∧ Arr W rb 69 [.string x, .string y, .string z] ∧ Res W ra)) (h2 : Below W.heap.size W w2) : CopyS w ra rb x y z w2 :=
  copyS (h.2.1.trans (h2.mono h.2.1.size)) (arr_below h.2.2.1 h2) (by obtain ⟨a, b, c, hA⟩ := h.2.2.2; exact ⟨a, b, c, arr_below hA h2⟩)
theorem copyS_store {w W : World} {ra rb : Nat} {x y z : ByteArray} {S : Prop} {u v t : Value} (hne : rb ≠ ra) (hle : w.heap.size ≤ ra) (h : S ∧ (Below w.heap.size w W ∧ Arr W rb 69 [.string x, .string y, .string z] ∧ Res W ra)) :
    CopyS w ra rb x y z (((W.setCell ⟨ra, 0, none⟩ u).setCell ⟨ra, 1, none⟩ v).setCell ⟨ra, 2, none⟩ t) :=
  copyS (below_three h.2.1 hle u v t) (arr_other (arr_other (arr_other h.2.2.1 _ _ _ hne) _ _ _ hne) _ _ _ hne) (by obtain ⟨a, b, c, hA⟩ := h.2.2.2; exact ⟨u, v, t, ((hA.put 0 u).put 1 v).put 2 t⟩)

set_option maxRecDepth 100000 in
set_option maxHeartbeats 2000000 in
theorem spec_l04jidP (s : ByteArray) (w : World) (hs : s.size ≤ 2000000) :
    Calls Try.prog 78 #[.string s] w fun e w' => (∃ x y z, e = .returned (.tuple #[.agg #[.string x, .string y, .string z], .bool (addrB s)]) ∧ (addrB s = true → x = strOf (readL s.data.toList).1 ∧ y = strOf (readL s.data.toList).2.1 ∧ z = strOf (readL s.data.toList).2.2)) ∧ Below w.heap.size w w' := by
  have i1 := fun w => spec_l03read s w hs
  go_enter Try.func78, Try.ntmps78
  go_wp2_with (go_at_call 95; go_fit (i1 _); rintro e w1 ⟨⟨x, y, z, b, rfl, hg, hx⟩, hb⟩)
  rw [← hg]
  have hlt : w.heap.size < w1.heap.size := by have := hb.size; simp at this; omega
  have hne : w1.heap.size ≠ w.heap.size := by omega
  have hS : CopyS w w.heap.size w1.heap.size x y z (w1.alloc (.cells #[.string x, .string y, .string z] 69)).drew :=
    copyS (Below.drew ((below_one hb).alloc (by omega) _)) (Arr.fresh w1 _ _) ⟨_, _, _, arr_alloc (arr_below (Arr.fresh w _ _) hb) _⟩
  obtain ⟨W1, hW1⟩ : ∃ W1, W1 = w1.alloc (.cells #[.string x, .string y, .string z] 69) := ⟨_, rfl⟩
  rw [← hW1] at hS ⊢
  have HS := Lib.hid hS
  clear hS hb i1 hW1
  cases b
  · have HA := Lib.hid (addr_bad hg.symm)
    clear hg hx
    refine wp_region_held_drew (S := (fun W => (W.cell? ⟨w1.heap.size, 0, none⟩ = some (.string x) ∧ W.cell? ⟨w1.heap.size, 1, none⟩ = some (.string y) ∧ W.cell? ⟨w1.heap.size, 2, none⟩ = some (.string z) ∧
   W.cell? ⟨w.heap.size, 0, none⟩ = some (cellAt W w.heap.size 0) ∧ W.cell? ⟨w.heap.size, 1, none⟩ = some (cellAt W w.heap.size 1) ∧ W.cell? ⟨w.heap.size, 2, none⟩ = some (cellAt W w.heap.size 2) ∧
   W.frozen? ⟨w.heap.size, 0, none⟩ = false ∧ W.frozen? ⟨w.heap.size, 1, none⟩ = false ∧ W.frozen? ⟨w.heap.size, 2, none⟩ = false) ∧
  (Below w.heap.size w W ∧ Arr W w1.heap.size 69 [.string x, .string y, .string z] ∧ Res W w.heap.size))) (by kernel_rfl) HS.out (fun hHeld => ?_)
    generalize W1.drew = V at hHeld ⊢
    refine takeH (i := 0) (k := 11) (v := .agg #[.string x, .string y, .string z]) rfl (by rfl) (by kernel_rfl) (by kernel_rfl) (by kernel_rfl) (fun _ _ _ h => h) (by rfl) ?_ hHeld ?_
    · intro w hSw; (try dsimp only at hSw); go_simp
    (try simp only [Act.put, List.setIfInBounds_toArray, List.set_cons_zero, List.set_cons_succ])
    refine takeH (i := 1) (k := 12) (v := .bool false) rfl (by rfl) (by kernel_rfl) (by kernel_rfl) (by kernel_rfl) (fun _ _ _ h => h) (by rfl) ?_ hHeld ?_
    · intro w hSw; (try dsimp only at hSw); go_simp
    (try simp only [Act.put, List.setIfInBounds_toArray, List.set_cons_zero, List.set_cons_succ])
    refine takeH (i := 2) (k := 13) (v := .bool false) rfl (by rfl) (by kernel_rfl) (by kernel_rfl) (by kernel_rfl) (fun _ _ _ h => h) (by rfl) ?_ hHeld ?_
    · intro w hSw; (try dsimp only at hSw); go_simp
    (try simp only [Act.put, List.setIfInBounds_toArray, List.set_cons_zero, List.set_cons_succ])
    refine skipH (i := 3) (k := 14) rfl (by rfl) (by kernel_rfl) (by kernel_rfl) (by kernel_rfl) (fun _ _ _ h => h) (by rfl) hHeld ?_
    (try simp only [Act.put, List.setIfInBounds_toArray, List.set_cons_zero, List.set_cons_succ])
    refine skipH (i := 4) (k := 15) rfl (by rfl) (by kernel_rfl) (by kernel_rfl) (by kernel_rfl) (fun _ _ _ h => h) (by rfl) hHeld ?_
    (try simp only [Act.put, List.setIfInBounds_toArray, List.set_cons_zero, List.set_cons_succ])
    refine skipH (i := 5) (k := 16) rfl (by rfl) (by kernel_rfl) (by kernel_rfl) (by kernel_rfl) (fun _ _ _ h => h) (by rfl) hHeld ?_
    (try simp only [Act.put, List.setIfInBounds_toArray, List.set_cons_zero, List.set_cons_succ])
    refine skipH (i := 6) (k := 17) rfl (by rfl) (by kernel_rfl) (by kernel_rfl) (by kernel_rfl) (fun _ _ _ h => h) (by rfl) hHeld ?_
    (try simp only [Act.put, List.setIfInBounds_toArray, List.set_cons_zero, List.set_cons_succ])
    refine takeH (i := 7) (k := 18) (v := .bool false) rfl (by rfl) (by kernel_rfl) (by kernel_rfl) (by kernel_rfl) (fun _ _ _ h => h) (by rfl) ?_ hHeld ?_
    · intro w hSw; (try dsimp only at hSw); go_simp
    (try simp only [Act.put, List.setIfInBounds_toArray, List.set_cons_zero, List.set_cons_succ])
    have hrN := hHeld.2.2.2
    obtain ⟨⟨p0, p1, p2, p3, p4, p5, p6, p7, p8⟩, -⟩ := id hHeld
    refine wpAnyH_ready (rs := [8]) (by kernel_rfl) (by simp) ?_
    refine AllReadyH.cons rfl (fun K hK => ?_) AllReadyH.nil
    rw [if_pos (by rfl)]
    go_simp
    refine hK.out _ _ (copyS_store hne (Nat.le_refl _) hHeld) (fun hHeld => ?_)
    clear hK K
    (try simp only [Act.put, List.setIfInBounds_toArray, List.set_cons_zero, List.set_cons_succ])
    refine takeH (i := 9) (k := 3) (v := .bool false) rfl (by rfl) (by kernel_rfl) (by kernel_rfl) (by kernel_rfl) (fun _ _ _ h => h) (by rfl) ?_ hHeld ?_
    · intro w hSw; (try dsimp only at hSw); go_simp
    (try simp only [Act.put, List.setIfInBounds_toArray, List.set_cons_zero, List.set_cons_succ])
    refine wpAnyH_done (by kernel_rfl) ?_ _
    obtain ⟨a, b, c, hA⟩ := hrN
    have hF : Arr _ w.heap.size 69 [.string x, .string y, .string z] := ((hA.put 0 (.string x)).put 1 (.string y)).put 2 (.string z)
    have hz := arr_lt hF
    obtain ⟨c0, c1, c2, _, _, _⟩ := arr_three hF
    have HB := Lib.hid hHeld.2.1
    clear hA hF hHeld
    go_wp2
    exact bodyPost_ret (v := .tuple #[.agg #[.string x, .string y, .string z], .bool false]) (by simp [results, Try.results78, go_sem, c0, c1, c2] at hz ⊢; try omega) rfl ⟨⟨x, y, z, by rw [HA.out], fun h => by rw [HA.out] at h; cases h⟩, HB.out⟩
  · obtain ⟨e1, e2, e3⟩ := hx rfl
    have HE := Lib.hid (And.intro e1 (And.intro e2 e3))
    have hj : jidB x y z = true := by
      have h := hg.symm
      unfold goodR at h
      simp only [Bool.and_eq_true] at h
      rw [e1, e2, e3]
      exact h.2
    obtain ⟨z1, z2, z3⟩ := right_le hj
    have i2 := fun w => spec_addr x y z w (by omega) (by omega) (by omega)
    obtain ⟨X, hX⟩ : ∃ X, X = jidT x y z := ⟨_, rfl⟩
    rw [← hX] at i2
    obtain ⟨v, hv⟩ : ∃ v, (X.toList == s.toList) = v := ⟨_, rfl⟩
    have HA : Hid (addrB s = v) := Lib.hid (by unfold addrB; rw [← hg, ← e1, ← e2, ← e3, ← hX, hv]; rfl)
    clear hg hx e1 e2 e3 hj z1 z2 z3 hX
    go_region_held3 (fun W => (W.cell? ⟨w1.heap.size, 0, none⟩ = some (.string x) ∧ W.cell? ⟨w1.heap.size, 1, none⟩ = some (.string y) ∧ W.cell? ⟨w1.heap.size, 2, none⟩ = some (.string z) ∧
   W.cell? ⟨w.heap.size, 0, none⟩ = some (cellAt W w.heap.size 0) ∧ W.cell? ⟨w.heap.size, 1, none⟩ = some (cellAt W w.heap.size 1) ∧ W.cell? ⟨w.heap.size, 2, none⟩ = some (cellAt W w.heap.size 2) ∧
   W.frozen? ⟨w.heap.size, 0, none⟩ = false ∧ W.frozen? ⟨w.heap.size, 1, none⟩ = false ∧ W.frozen? ⟨w.heap.size, 2, none⟩ = false) ∧
  (Below w.heap.size w W ∧ Arr W w1.heap.size 69 [.string x, .string y, .string z] ∧ Res W w.heap.size))
      (with_reducible first | assumption | exact HS.out | exact copyS_on (by assumption) hbN | exact copyS_store hne (Nat.le_refl _) (by assumption))
      (first
        | (go_at_call 96; go_fit (i2 _); rintro e w2 ⟨rfl, hbN⟩; have hrN := (copyS_on (by assumption) hbN).2.2.2))
    all_goals
      obtain ⟨a, b, c, hA⟩ := hrN
      have hF : Arr _ w.heap.size 69 [.string x, .string y, .string z] := ((hA.put 0 (.string x)).put 1 (.string y)).put 2 (.string z)
      have hz := arr_lt hF
      obtain ⟨c0, c1, c2, _, _, _⟩ := arr_three hF
      obtain ⟨_, hbF, _, _⟩ := copyS_on (by assumption) (Below.refl _ _)
      have HB := Lib.hid hbF
      clear hA hF hbF
      go_wp2
      exact bodyPost_ret (v := .tuple #[.agg #[.string x, .string y, .string z], .bool v]) (by simp [results, Try.results78, go_sem, c0, c1, c2] at hz ⊢; try omega) rfl ⟨⟨x, y, z, by rw [HA.out], fun _ => HE.out⟩, HB.out⟩
theorem spec_l04jid (s : ByteArray) (w : World) (hs : s.size ≤ 2000000) :
    Calls Try.prog 78 #[.string s] w fun e w' => (∃ x y z, e = .returned (.tuple #[.agg #[.string x, .string y, .string z], .bool (addrB s)])) ∧ Below w.heap.size w w' :=
  (spec_l04jidP s w hs).mono fun e w' ⟨⟨x, y, z, h, _⟩, hb⟩ => ⟨⟨x, y, z, h⟩, hb⟩
/-- An address, or nothing. -/
noncomputable def addrE (s : ByteArray) : Bool := decide (s.size = 0) || addrB s
theorem is_empty (s : ByteArray) : (s.toList == []) = decide (s.size = 0) := by
  rw [Bool.eq_iff_iff, beq_iff_eq, decide_eq_true_iff, ByteArray.toList_eq, ← size_data]
  exact List.length_eq_zero_iff.symm
set_option maxHeartbeats 1000000 in
theorem spec_address (s : ByteArray) (w : World) (hs : s.size ≤ 2000000) :
    Calls Try.prog 66 #[.string s] w fun e w' => e = .returned (.bool (addrE s)) ∧ Below w.heap.size w w' := by
  have i1 := spec_l04jid s w hs
  unfold addrE
  obtain ⟨v, hv⟩ : ∃ v, addrB s = v := ⟨_, rfl⟩
  rw [hv] at i1 ⊢
  clear hv
  rcases Nat.eq_zero_or_pos s.size with h1 | h1
  · obtain ⟨n1, e1⟩ := empty_of h1
    rw [decide_eq_true h1]
    go_enter Try.func66, Try.ntmps66
    go_wp2_with (go_at_call 78; go_fit i1; rintro e w1 ⟨⟨x, y, z, rfl⟩, hb⟩)
    go_ret
    exact ⟨rfl, hb.alloc hb.size _⟩
  · have n1 := ne_nil h1
    have e1 := not_empty h1
    rw [decide_eq_false (by omega)]
    go_enter Try.func66, Try.ntmps66
    go_wp2_with (go_at_call 78; go_fit i1; rintro e w1 ⟨⟨x, y, z, rfl⟩, hb⟩)
    go_ret
    exact ⟨ret_bool (by simp), hb.alloc hb.size _⟩
end Go.Proofs.Ytpjmcpfmnlfmdaa
