/- impl.DbKey, spec.DbKey, impl.DbAnswer and spec.DbAnswer. -/
import Derived.Test.YtpbogdfgomfpjaaDoorDbKeyL
namespace Go.Proofs.YtpbogdfgomfpjaaDoor
set_option linter.unusedSimpArgs false
set_option linter.unusedVariables false
open Go.RowKit

theorem ky_zero {s t f : ByteArray} {n : Int} (h : s.size = 0) : kyS s t f n = ⟨#[]⟩ := kyS_no (by unfold kyB; rw [decide_eq_false (show ¬ 0 < s.size by omega)]; rfl)
theorem ky_big {s t f : ByteArray} {n : Int} (h : 100 < s.size) : kyS s t f n = ⟨#[]⟩ := kyS_no (by unfold kyB; rw [decide_eq_false (show ¬ s.size ≤ 100 by omega), Bool.and_false]; rfl)
theorem ky_tests {s t f : ByteArray} {n : Int} {b1 b2 b3 : Bool} (h0 : 0 < s.size) (h1 : s.size ≤ 100) (e1 : domB t = b1) (e2 : domB f = b2) (e3 : (decide (1 ≤ n) && decide (n ≤ 1000000000)) = b3) : kyB s t f n = (b1 && b2 && b3) := by
  unfold kyB
  rw [show decide (0 < s.size) = true by simpa using h0, show decide (s.size ≤ 100) = true by simpa using h1, e1, e2, e3]
  simp
set_option maxRecDepth 100000 in
set_option maxHeartbeats 1000000 in
theorem impl_dbkey (s t f : ByteArray) (n : Int) (w : World) (hT : Tabs w) (hp : TabP w) (hm : MaxL w) (hs : s.size ≤ maxLen) (ht : t.size ≤ maxLen) (hf : f.size ≤ maxLen) :
    Calls Tryd.prog 11 #[.string s, .string t, .string f, .int .i64 n] w fun e w' => e = .returned (.string (kyS s t f n)) ∧ Below w.heap.size w w' := by
  unfold maxLen at hs
  rcases Nat.eq_zero_or_pos s.size with h1 | h1
  · obtain ⟨n1, e1⟩ := empty_of h1
    have HK := Lib.hid (ky_zero (s := s) (t := t) (f := f) (n := n) h1)
    rw [HK.out]
    clear hT hp hm
    go_enter Tryd.func11, Tryd.ntmps11
    go_wp2
    go_ret
    exact ⟨rfl, Below.refl _ _⟩
  have n1 := ne_nil h1
  have e1 := not_empty h1
  by_cases h2 : 100 < s.size
  · have HK := Lib.hid (ky_big (s := s) (t := t) (f := f) (n := n) h2)
    rw [HK.out]
    clear hT hp hm
    have h2' : (100 : Int) < s.size := by omega
    go_enter Tryd.func11, Tryd.ntmps11
    go_wp2
    go_ret
    exact ⟨rfl, Below.refl _ _⟩
  have h2' : ¬ (100 : Int) < s.size := by omega
  obtain ⟨b1, e2⟩ : ∃ b, domB t = b := ⟨_, rfl⟩
  obtain ⟨b2, e3⟩ : ∃ b, domB f = b := ⟨_, rfl⟩
  obtain ⟨b3, e4⟩ : ∃ b, (decide (1 ≤ n) && decide (n ≤ 1000000000)) = b := ⟨_, rfl⟩
  have hky := ky_tests (s := s) h1 (by omega) e2 e3 e4
  have i1 := fun w => impl_domain t w ht
  have i2 := fun w => impl_domain f w hf
  have i3 := fun w => impl_isid n w
  rw [e2] at i1
  rw [e3] at i2
  rw [e4] at i3
  have HM := Lib.hid (fun W (h : Below w.heap.size w W) => hm.below h hm.pos)
  have HT := Lib.hid (fun W (h : Below w.heap.size w W) => hT.below h)
  have HP := Lib.hid (fun W (h : Below w.heap.size w W) => hp.below h)
  have HR := Lib.hid (Below.refl w.heap.size w)
  clear hT hp hm
  obtain hall | hnot : (b1 && b2 && b3) = true ∨ (b1 && b2 && b3) = false := by cases (b1 && b2 && b3) <;> simp
  · rw [hall] at hky
    rw [kyS_yes hky]
    simp only [Bool.and_eq_true] at hall
    obtain ⟨⟨rfl, rfl⟩, rfl⟩ := hall
    simp only [Bool.and_eq_true, decide_eq_true_eq] at e4
    have i4 := fun W hT => impl_maker s W hT (by omega)
    have i5 := fun g W hT hp hc => impl_make1 (strOf (shaL s)) t f n g W hT hp (by rw [strOf_size, shaL_len]; exact Nat.le_refl _) (dom_size e2) (dom_size e3) (by omega) e4.2 hc
    obtain ⟨X, hX⟩ : ∃ X, strOf (hexL (macIn (strOf (shaL s)) (kyT t f n))) = X := ⟨_, rfl⟩
    obtain ⟨Y, hY⟩ : ∃ Y, strOf (shaL s) = Y := ⟨_, rfl⟩
    rw [hX] at i5 ⊢
    rw [hY] at i4 i5
    clear hX hY hky e2 e3 e4
    go_enter Tryd.func11, Tryd.ntmps11
    go_wp2_with (first
      | (go_at_call 74; go_fit (i5 _ _ (HT.out _ HB3.out) (HP.out _ HB3.out) HC.out); rintro e w4 ⟨rfl, hb4⟩; have HB4 := Lib.hid (HB3.out.trans (hb4.mono HB3.out.size)); clear hb4)
      | (go_at_call 43; go_fit (i4 _ (HT.out _ (below_drewN HR.out _))); rintro e w3 ⟨⟨g, rfl, hc⟩, hb3⟩; have HB3 := Lib.hid ((below_drewN HR.out _).trans (hb3.mono (below_drewN HR.out _).size)); have HC := Lib.hid hc; clear hb3 hc)
      | (go_at_call 42; go_fit (i3 _); rintro e w' ⟨rfl, rfl⟩)
      | (go_at_call 41; go_fit (i1 _ (HM.out _ HR.out)); rintro e w' ⟨rfl, k1, rfl⟩)
      | (go_at_call 41; go_fit (i2 _ (HM.out _ (below_drewN HR.out _))); rintro e w' ⟨rfl, k2, rfl⟩))
    go_ret
    exact ⟨rfl, HB4.out⟩
  · rw [hnot] at hky
    rw [kyS_no hky]
    clear hky e2 e3 e4
    cases b1 <;> cases b2 <;> cases b3 <;> first
      | (exfalso; revert hnot; decide)
      | (clear hnot
         go_enter Tryd.func11, Tryd.ntmps11
         go_wp2_with (first
           | (go_at_call 42; go_fit (i3 _); rintro e w' ⟨rfl, rfl⟩)
           | (go_at_call 41; go_fit (i1 _ (HM.out _ HR.out)); rintro e w' ⟨rfl, k1, rfl⟩)
           | (go_at_call 41; go_fit (i2 _ (HM.out _ (below_drewN HR.out _))); rintro e w' ⟨rfl, k2, rfl⟩))
         go_ret
         first
           | exact ⟨rfl, below_drewN HR.out _⟩
           | exact ⟨rfl, below_drewN (below_drewN HR.out _) _⟩)
set_option maxRecDepth 100000 in
set_option maxHeartbeats 1000000 in
theorem spec_dbkey (s t f : ByteArray) (n : Int) (w : World) (hs : s.size ≤ maxLen) (ht : t.size ≤ maxLen) (hf : f.size ≤ maxLen) :
    Calls Tryd.prog 12 #[.string s, .string t, .string f, .int .i64 n] w fun e w' => e = .returned (.string (kyS s t f n)) ∧ Below w.heap.size w w' := by
  unfold maxLen at hs
  rcases Nat.eq_zero_or_pos s.size with h1 | h1
  · have h1' : (s.size : Int) < 1 := by omega
    have HK := Lib.hid (ky_zero (s := s) (t := t) (f := f) (n := n) h1)
    rw [HK.out]
    go_enter Tryd.func12, Tryd.ntmps12
    go_wp2
    go_ret
    exact ⟨rfl, Below.refl _ _⟩
  have h1' : ¬ (s.size : Int) < 1 := by omega
  by_cases h2 : 100 < s.size
  · have HK := Lib.hid (ky_big (s := s) (t := t) (f := f) (n := n) h2)
    rw [HK.out]
    have h2' : (100 : Int) < s.size := by omega
    go_enter Tryd.func12, Tryd.ntmps12
    go_wp2
    go_ret
    exact ⟨rfl, Below.refl _ _⟩
  have h2' : ¬ (100 : Int) < s.size := by omega
  obtain ⟨b1, e2⟩ : ∃ b, domB t = b := ⟨_, rfl⟩
  obtain ⟨b2, e3⟩ : ∃ b, domB f = b := ⟨_, rfl⟩
  obtain ⟨b3, e4⟩ : ∃ b, (decide (1 ≤ n) && decide (n ≤ 1000000000)) = b := ⟨_, rfl⟩
  have hky := ky_tests (s := s) h1 (by omega) e2 e3 e4
  have i1 := fun w => spec_dom5 t w ht
  have i2 := fun w => spec_dom5 f w hf
  have i3 := fun w => spec_is5 n w
  rw [e2] at i1
  rw [e3] at i2
  rw [e4] at i3
  obtain hall | hnot : (b1 && b2 && b3) = true ∨ (b1 && b2 && b3) = false := by cases (b1 && b2 && b3) <;> simp
  · rw [hall] at hky
    rw [kyS_yes hky]
    simp only [Bool.and_eq_true] at hall
    obtain ⟨⟨rfl, rfl⟩, rfl⟩ := hall
    simp only [Bool.and_eq_true, decide_eq_true_eq] at e4
    have hts := dom_size e2
    have hfs := dom_size e3
    have hil := ky_id_len (n := n) (by omega) (by omega)
    have hks := kyT_size hts hfs (n := n) (by omega) (by omega)
    have i4 := fun W => spec_all s W (by omega)
    have i5 := fun W => spec_dec n W (by omega) (by omega)
    have i6 := fun W => spec_l02mac (strOf (shaL s)) (kyT t f n) W (by rw [strOf_size, shaL_len]; omega) (by omega)
    have hml : (strOf (macIn (strOf (shaL s)) (kyT t f n))).size = 32 := by rw [strOf_size, macIn_len]
    have i7 := fun W => spec_hex (strOf (macIn (strOf (shaL s)) (kyT t f n))) W (by rw [hml]; omega) (by rw [hml]; omega)
    rw [strOf_data] at i7
    have a1 := fun W => add_str t ⟨#[32]⟩ (by show t.size + 1 ≤ _; omega) W
    have a2 := fun W => add_str (strOf (t.data.toList ++ [32])) f (by rw [strOf_size, List.length_append, size_toL]; show t.size + 1 + f.size ≤ _; omega) W
    have a3 := fun W => add_str (strOf (t.data.toList ++ [32] ++ f.data.toList)) ⟨#[32]⟩ (by rw [strOf_size, List.length_append, List.length_append, size_toL, size_toL]; show t.size + 1 + f.size + 1 ≤ _; omega) W
    have a4 := fun W => add_str (strOf (t.data.toList ++ [32] ++ f.data.toList ++ [32])) (strOf (idL n)) (by rw [strOf_size, strOf_size, List.length_append, List.length_append, List.length_append, size_toL, size_toL]; show t.size + 1 + f.size + 1 + _ ≤ _; omega) W
    rw [strOf_data] at a2 a3 a4
    rw [strOf_data, show t.data.toList ++ [32] ++ f.data.toList ++ [32] ++ idL n = t.data.toList ++ (32 :: (f.data.toList ++ (32 :: idL n))) by simp] at a4
    have hkt : strOf (t.data.toList ++ (32 :: (f.data.toList ++ (32 :: idL n)))) = kyT t f n := rfl
    rw [hkt] at a4
    have a1' : ∀ W, (Op.stringOp .add t ⟨#[32]⟩).run Tryd.prog W = .ok (.string (strOf (t.data.toList ++ [32]))) W := a1
    have a3' : ∀ W, (Op.stringOp .add (strOf (t.data.toList ++ [32] ++ f.data.toList)) ⟨#[32]⟩).run Tryd.prog W = .ok (.string (strOf (t.data.toList ++ [32] ++ f.data.toList ++ [32]))) W := a3
    obtain ⟨X, hX⟩ : ∃ X, macIn (strOf (shaL s)) (kyT t f n) = X := ⟨_, rfl⟩
    obtain ⟨Y, hY⟩ : ∃ Y, strOf (shaL s) = Y := ⟨_, rfl⟩
    rw [hX] at i6 i7 ⊢
    rw [hY] at i4 i6
    obtain ⟨K, hK⟩ : ∃ K, kyT t f n = K := ⟨_, rfl⟩
    rw [hK] at a4 i6
    obtain ⟨D, hD⟩ : ∃ D, strOf (idL n) = D := ⟨_, rfl⟩
    rw [hD] at a4 i5
    obtain ⟨A1, hA1⟩ : ∃ A1, strOf (t.data.toList ++ [32]) = A1 := ⟨_, rfl⟩
    obtain ⟨A3, hA3⟩ : ∃ A3, strOf (t.data.toList ++ [32] ++ f.data.toList ++ [32]) = A3 := ⟨_, rfl⟩
    obtain ⟨A2, hA2⟩ : ∃ A2, strOf (t.data.toList ++ [32] ++ f.data.toList) = A2 := ⟨_, rfl⟩
    rw [hA1] at a1' a2
    rw [hA2, hA3] at a3'
    rw [hA2] at a2
    rw [hA3] at a4
    clear a1 a3 hX hY hky e2 e3 e4 hK hD hA1 hA2 hA3 hml hil hks hts hfs hkt
    go_enter Tryd.func12, Tryd.ntmps12
    go_wp2_with (first
      | (go_at_call 46; go_fit (i7 _); rintro e w7 ⟨rfl, hb⟩; have HB7 := Lib.hid (HB6.out.trans (hb.mono HB6.out.size)); clear hb)
      | (go_at_call 47; go_fit (i6 _); rintro e w6 ⟨rfl, hb⟩; have HB6 := Lib.hid (HB5.out.trans (hb.mono HB5.out.size)); clear hb)
      | (go_at_call 49; go_fit (i5 _); rintro e w5 ⟨rfl, hb⟩; have HB5 := Lib.hid (HB4.out.trans (hb.mono HB4.out.size)); clear hb)
      | (go_at_call 48; go_fit (i4 _); rintro e w4 ⟨rfl, hb⟩; have HB4 := Lib.hid hb; clear hb)
      | (go_at_call 45; go_fit (i3 _); rintro e w' ⟨rfl, rfl⟩)
      | (go_at_call 44; go_fit (i1 _); rintro e w' ⟨rfl, rfl⟩)
      | (go_at_call 44; go_fit (i2 _); rintro e w' ⟨rfl, rfl⟩))
    go_ret
    exact ⟨rfl, HB7.out⟩
  · rw [hnot] at hky
    rw [kyS_no hky]
    clear hky e2 e3 e4
    cases b1 <;> cases b2 <;> cases b3 <;> first
      | (exfalso; revert hnot; decide)
      | (clear hnot
         go_enter Tryd.func12, Tryd.ntmps12
         go_wp2_with (first
           | (go_at_call 45; go_fit (i3 _); rintro e w' ⟨rfl, rfl⟩)
           | (go_at_call 44; go_fit (i1 _); rintro e w' ⟨rfl, rfl⟩)
           | (go_at_call 44; go_fit (i2 _); rintro e w' ⟨rfl, rfl⟩))
         go_ret
         exact ⟨rfl, Below.refl _ _⟩)
/-- The answer to whether k is the key. -/
noncomputable def anB (s t f : ByteArray) (n : Int) (k : ByteArray) : Bool := decide (0 < k.size) && (k.toList == (kyS s t f n).toList)
set_option maxHeartbeats 1000000 in
theorem impl_answer (s t f : ByteArray) (n : Int) (k : ByteArray) (w : World) (hT : Tabs w) (hp : TabP w) (hm : MaxL w) (hs : s.size ≤ maxLen) (ht : t.size ≤ maxLen) (hf : f.size ≤ maxLen) :
    Calls Tryd.prog 13 #[.string s, .string t, .string f, .int .i64 n, .string k] w fun e w' => e = .returned (.bool (anB s t f n k)) ∧ Below w.heap.size w w' := by
  have i1 := impl_dbkey s t f n w hT hp hm hs ht hf
  unfold anB
  obtain ⟨X, hX⟩ : ∃ X, kyS s t f n = X := ⟨_, rfl⟩
  rw [hX] at i1 ⊢
  clear hX hT hp hm hs ht hf
  rcases Nat.eq_zero_or_pos k.size with h1 | h1
  · obtain ⟨n1, e1⟩ := empty_of h1
    rw [decide_eq_false (show ¬ 0 < k.size by omega), Bool.false_and]
    clear i1
    go_enter Tryd.func13, Tryd.ntmps13
    go_wp2
    go_ret
    exact ⟨rfl, Below.refl _ _⟩
  · have n1 := ne_nil h1
    have e1 := not_empty h1
    rw [show decide (0 < k.size) = true by simpa using h1, Bool.true_and]
    go_enter Tryd.func13, Tryd.ntmps13
    go_wp2_with (go_at_call 11; go_fit i1; rintro e w1 ⟨rfl, hb1⟩)
    go_ret
    exact ⟨rfl, hb1⟩
set_option maxHeartbeats 1000000 in
theorem spec_answer (s t f : ByteArray) (n : Int) (k : ByteArray) (w : World) (hs : s.size ≤ maxLen) (ht : t.size ≤ maxLen) (hf : f.size ≤ maxLen) :
    Calls Tryd.prog 30 #[.string s, .string t, .string f, .int .i64 n, .string k] w fun e w' => e = .returned (.bool (anB s t f n k)) ∧ Below w.heap.size w w' := by
  have i1 := spec_dbkey s t f n w hs ht hf
  unfold anB
  obtain ⟨X, hX⟩ : ∃ X, kyS s t f n = X := ⟨_, rfl⟩
  rw [hX] at i1 ⊢
  clear hX hs ht hf
  rcases Nat.eq_zero_or_pos k.size with h1 | h1
  · obtain ⟨n1, e1⟩ := empty_of h1
    rw [decide_eq_false (show ¬ 0 < k.size by omega), Bool.false_and]
    clear i1
    go_enter Tryd.func30, Tryd.ntmps30
    go_wp2
    go_ret
    exact ⟨rfl, Below.refl _ _⟩
  · have n1 := ne_nil h1
    have e1 := not_empty h1
    rw [show decide (0 < k.size) = true by simpa using h1, Bool.true_and]
    go_enter Tryd.func30, Tryd.ntmps30
    go_wp2_with (go_at_call 12; go_fit i1; rintro e w1 ⟨rfl, hb1⟩)
    go_ret
    exact ⟨ret_bool BEq.comm, hb1⟩
end Go.Proofs.YtpbogdfgomfpjaaDoor
