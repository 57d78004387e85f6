/- What GetText answers at every string and offset, in the program and in the specification. -/
import Derived.Test.YtnejnhfdinmicaaDoorGetWalks
import Derived.Test.YtnejnhfdinmicaaDoorJoinWalks
import Derived.WalkSpells
namespace Go.Proofs.YtnejnhfdinmicaaDoor
open Go.RowKit

/-- What GetText answers, the length being read as n, the offset a and the code c. -/
def getTextV (s : ByteArray) (n a c : Int) : Value :=
  if c ≠ 0 then textOut ⟨#[]⟩ 0 c else if n < 0 ∨ 20000 < n then textOut ⟨#[]⟩ 0 3 else if (s.size : Int) < a + n then textOut ⟨#[]⟩ 0 4 else textOut (s.extract a.toNat (a + n).toNat) (a + n) 0

theorem rdL_cnt : ∀ (l : List UInt8) (i u v n : Nat), rdL l i u = (0, v, n) → n ≤ i + l.length
  | [], _, _, _, _, h => by simp [rdL] at h
  | b :: l, i, u, v, n, h => by
    rw [rdL] at h
    by_cases h9 : i = 9 ∧ 1 < b.toNat
    · rw [if_pos h9] at h; simp at h
    · rw [if_neg h9] at h
      by_cases hb : b.toNat < 128
      · rw [if_pos hb] at h
        by_cases h0 : b.toNat = 0 ∧ 0 < i
        · rw [if_pos h0] at h; simp at h
        · rw [if_neg h0] at h
          simp at h
          simp
          omega
      · rw [if_neg hb] at h
        have := rdL_cnt l (i + 1) _ v n h
        simp
        omega
theorem getNum_at {s : ByteArray} {at_ n a : Int} (h : getNumV s at_ = numOut n a 0) : s.size ≤ 20000 ∧ 0 ≤ a ∧ a ≤ s.size := by
  unfold getNumV at h
  by_cases h1 : 20000 < s.size
  · rw [if_pos h1] at h; unfold numOut at h; simp at h
  · rw [if_neg h1] at h
    by_cases h2 : at_ < 0
    · rw [if_pos h2] at h; unfold numOut at h; simp at h
    · rw [if_neg h2] at h
      rcases hq : rdL (s.data.toList.drop at_.toNat) 0 0 with ⟨r1, r2, r3⟩
      rw [hq] at h
      unfold getNumIn at h
      by_cases h3 : r1 = 0
      · subst h3
        have hc := rdL_cnt _ _ _ _ _ hq
        have hl : (s.data.toList.drop at_.toNat).length = s.size - at_.toNat := by rw [List.length_drop]; rfl
        rw [if_pos rfl] at h
        unfold numOut at h
        simp at h
        by_cases hle : at_.toNat ≤ s.size
        · omega
        · rw [List.drop_eq_nil_of_le (by show s.data.toList.length ≤ _; rw [Array.length_toList]; show s.size ≤ _; omega)] at hq
          simp [rdL] at hq
      · rw [if_neg h3] at h
        unfold numOut at h
        simp at h
        omega

set_option maxRecDepth 100000 in
set_option maxHeartbeats 1000000 in
theorem impl_gettext (s : ByteArray) (at_ n a c : Int) (w : World) (hg : ErrLaid w) (hs : s.size ≤ 9223372036854775807) (ha : at_ ≤ 9223372036854775807) (hv : getNumV s at_ = numOut n a c) :
    Calls Tryd.prog 13 #[.string s, .int .i64 at_] w fun e w' => e = .returned (getTextV s n a c) ∧ Below w.heap.size w w' := by
  have HV := Lib.hid hv
  have HG := Lib.hid hg
  unfold getTextV
  by_cases h0 : c = 0
  · subst h0
    obtain ⟨hs2, ha0, ha1⟩ := getNum_at hv
    clear hv hg
    rw [if_neg (by simp)]
    by_cases h1 : n < 0
    · rw [if_pos (.inl h1)]
      go_enter Tryd.func13, Tryd.ntmps13
      go_wp2_with (first
        | (go_at_call 9; refine (impl_getnum s at_ _ (HG.out.alloc _) hs ha).mono ?_; rintro e w1 ⟨rfl, hb1⟩; obtain ⟨⟨c0, c1, c2⟩, ⟨f0, f1, f2⟩, hz⟩ := three_kept hb1; rw [HV.out]; unfold numOut))
      refine bodyPost_ret (v := textOut ⟨#[]⟩ 0 3) (by simp [results, Tryd.results13, go_sem, textOut, c0, c1, c2, hz]) rfl ⟨rfl, ?_⟩
      exact (below_three (below_one hb1) (Nat.le_refl _) _ _ _).alloc (below_three (below_one hb1) (Nat.le_refl _) _ _ _).size _
    · by_cases h2 : 20000 < n
      · rw [if_pos (.inr h2)]
        go_enter Tryd.func13, Tryd.ntmps13
        go_wp2_with (first
          | (go_at_call 9; refine (impl_getnum s at_ _ (HG.out.alloc _) hs ha).mono ?_; rintro e w1 ⟨rfl, hb1⟩; obtain ⟨⟨c0, c1, c2⟩, ⟨f0, f1, f2⟩, hz⟩ := three_kept hb1; rw [HV.out]; unfold numOut))
        refine bodyPost_ret (v := textOut ⟨#[]⟩ 0 3) (by simp [results, Tryd.results13, go_sem, textOut, c0, c1, c2, hz]) rfl ⟨rfl, ?_⟩
        exact (below_three (below_one hb1) (Nat.le_refl _) _ _ _).alloc (below_three (below_one hb1) (Nat.le_refl _) _ _ _).size _
      · rw [if_neg (by omega)]
        by_cases h3 : (s.size : Int) < a + n
        · rw [if_pos h3]
          go_enter Tryd.func13, Tryd.ntmps13
          go_wp2_with (first
            | (go_at_call 9; refine (impl_getnum s at_ _ (HG.out.alloc _) hs ha).mono ?_; rintro e w1 ⟨rfl, hb1⟩; obtain ⟨⟨c0, c1, c2⟩, ⟨f0, f1, f2⟩, hz⟩ := three_kept hb1; rw [HV.out]; unfold numOut))
          refine bodyPost_ret (v := textOut ⟨#[]⟩ 0 4) (by simp [results, Tryd.results13, go_sem, textOut, c0, c1, c2, hz]) rfl ⟨rfl, ?_⟩
          exact (below_three (below_one hb1) (Nat.le_refl _) _ _ _).alloc (below_three (below_one hb1) (Nat.le_refl _) _ _ _).size _
        · rw [if_neg h3]
          obtain ⟨A, rfl⟩ : ∃ A : Nat, a = A := ⟨a.toNat, by omega⟩
          obtain ⟨M, rfl⟩ : ∃ M : Nat, n = M := ⟨n.toNat, by omega⟩
          have hAM : (A : Int) + (M : Int) = ((A + M : Nat) : Int) := rfl
          rw [hAM, Int.toNat_natCast, Int.toNat_natCast]
          have hle : A + M ≤ s.size := by omega
          have hi0 : (0 : Int) ≤ (A : Int) := by omega
          have hi1 : (A : Int) ≤ (A : Int) + (M : Int) := by omega
          have hi2 : (A : Int) + (M : Int) ≤ (s.size : Int) := by omega
          have htn : ((A : Int) + (M : Int)).toNat = A + M := by omega
          clear h1 h2 h3 ha0 ha1 hAM
          go_enter Tryd.func13, Tryd.ntmps13
          go_wp2_with (first
            | (go_at_call 9; refine (impl_getnum s at_ _ (HG.out.alloc _) hs ha).mono ?_; rintro e w1 ⟨rfl, hb1⟩; obtain ⟨⟨c0, c1, c2⟩, ⟨f0, f1, f2⟩, hz⟩ := three_kept hb1; rw [HV.out]; unfold numOut))
          have hsz : (w1.alloc (.cells #[.int .i64 (M : Int), .int .i64 (A : Int), .int .i64 0] 26)).heap.size = w1.heap.size + 1 := by simp
          have hone := one_cells (w1.alloc (.cells #[.int .i64 (M : Int), .int .i64 (A : Int), .int .i64 0] 26)) (s.extract A (A + M)) 9
          rw [hsz] at hone
          refine (impl_joined (w1.heap.size + 1) 1 [s.extract A (A + M)] _ (by simp) hone (by simp) (by rw [flat_one, size_data]; exact extract_le s _ _ _ (by omega))).mono ?_
          rintro e w2 ⟨rfl, hb2⟩
          rw [joined_one]
          have hz1 : w.heap.size < (w1.alloc (.cells #[.int .i64 (M : Int), .int .i64 (A : Int), .int .i64 0] 26)).heap.size := by rw [hsz]; omega
          have d0 := (cell_on hb2 hz1 0).trans ((World.cell?_alloc_lt w1 _ ⟨w.heap.size, 0, none⟩ hz).trans c0)
          have d1 := (cell_on hb2 hz1 1).trans ((World.cell?_alloc_lt w1 _ ⟨w.heap.size, 1, none⟩ hz).trans c1)
          have d2 := (cell_on hb2 hz1 2).trans ((World.cell?_alloc_lt w1 _ ⟨w.heap.size, 2, none⟩ hz).trans c2)
          have g0 := (frozen_on hb2 hz1 0).trans ((World.frozen?_of_block (w := w1) (Below.heap_alloc w1 _ w.heap.size hz)).trans f0)
          have g1 := (frozen_on hb2 hz1 1).trans ((World.frozen?_of_block (w := w1) (Below.heap_alloc w1 _ w.heap.size hz)).trans f1)
          have g2 := (frozen_on hb2 hz1 2).trans ((World.frozen?_of_block (w := w1) (Below.heap_alloc w1 _ w.heap.size hz)).trans f2)
          have hz2 : w.heap.size < w2.heap.size := Nat.lt_of_lt_of_le hz1 (Nat.le_trans (by simp) hb2.size)
          have HB := Lib.hid (((below_one hb1).alloc (below_one hb1).size _).trans (below_one hb2 |>.mono (Nat.le_of_lt hz1)))
          clear hb2 hb1 hone hsz c0 c1 c2 f0 f1 f2 hz hz1 hi0 hi1 hi2
          go_wp2
          refine bodyPost_ret (v := textOut (s.extract A (A + M)) ((A + M : Nat) : Int) 0) (by simp [results, Tryd.results13, go_sem, textOut, d0, d1, d2, hz2]) rfl ⟨rfl, ?_⟩
          exact below_three HB.out (Nat.le_refl _) _ _ _
  · clear hv hg
    rw [if_pos h0]
    go_enter Tryd.func13, Tryd.ntmps13
    go_wp2_with (first
      | (go_at_call 9; refine (impl_getnum s at_ _ (HG.out.alloc _) hs ha).mono ?_; rintro e w1 ⟨rfl, hb1⟩; obtain ⟨⟨c0, c1, c2⟩, ⟨f0, f1, f2⟩, hz⟩ := three_kept hb1; rw [HV.out]; unfold numOut))
    refine bodyPost_ret (v := textOut ⟨#[]⟩ 0 c) (by simp [results, Tryd.results13, go_sem, textOut, c0, c1, c2, hz]) rfl ⟨rfl, ?_⟩
    exact (below_three (below_one hb1) (Nat.le_refl _) _ _ _).alloc (below_three (below_one hb1) (Nat.le_refl _) _ _ _).size _
set_option maxRecDepth 100000 in
set_option maxHeartbeats 1000000 in
theorem spec_gettext (s : ByteArray) (at_ n a c : Int) (w : World) (hs : s.size ≤ 9223372036854775807) (ha : at_ ≤ 9223372036854775807) (hv : getNumV s at_ = numOut n a c) :
    Calls Tryd.prog 16 #[.string s, .int .i64 at_] w fun e w' => e = .returned (getTextV s n a c) ∧ Below w.heap.size w w' := by
  have HV := Lib.hid hv
  unfold getTextV
  by_cases h0 : c = 0
  · subst h0
    obtain ⟨hs2, ha0, ha1⟩ := getNum_at hv
    clear hv
    rw [if_neg (by simp)]
    by_cases h1 : n < 0
    · rw [if_pos (.inl h1)]
      go_enter Tryd.func16, Tryd.ntmps16
      go_wp2_with (first
        | (go_at_call 14; refine (spec_getnum s at_ _ hs ha).mono ?_; rintro e w1 ⟨rfl, hb1⟩; obtain ⟨⟨c0, c1, c2⟩, ⟨f0, f1, f2⟩, hz⟩ := three_kept hb1; rw [HV.out]; unfold numOut))
      refine bodyPost_ret (v := textOut ⟨#[]⟩ 0 3) (by simp [results, Tryd.results16, go_sem, textOut, c0, c1, c2, hz]) rfl ⟨rfl, ?_⟩
      exact (below_three (below_one hb1) (Nat.le_refl _) _ _ _).alloc (below_three (below_one hb1) (Nat.le_refl _) _ _ _).size _
    · by_cases h2 : 20000 < n
      · rw [if_pos (.inr h2)]
        go_enter Tryd.func16, Tryd.ntmps16
        go_wp2_with (first
          | (go_at_call 14; refine (spec_getnum s at_ _ hs ha).mono ?_; rintro e w1 ⟨rfl, hb1⟩; obtain ⟨⟨c0, c1, c2⟩, ⟨f0, f1, f2⟩, hz⟩ := three_kept hb1; rw [HV.out]; unfold numOut))
        refine bodyPost_ret (v := textOut ⟨#[]⟩ 0 3) (by simp [results, Tryd.results16, go_sem, textOut, c0, c1, c2, hz]) rfl ⟨rfl, ?_⟩
        exact (below_three (below_one hb1) (Nat.le_refl _) _ _ _).alloc (below_three (below_one hb1) (Nat.le_refl _) _ _ _).size _
      · rw [if_neg (by omega)]
        by_cases h3 : (s.size : Int) < a + n
        · rw [if_pos h3]
          go_enter Tryd.func16, Tryd.ntmps16
          go_wp2_with (first
            | (go_at_call 14; refine (spec_getnum s at_ _ hs ha).mono ?_; rintro e w1 ⟨rfl, hb1⟩; obtain ⟨⟨c0, c1, c2⟩, ⟨f0, f1, f2⟩, hz⟩ := three_kept hb1; rw [HV.out]; unfold numOut))
          refine bodyPost_ret (v := textOut ⟨#[]⟩ 0 4) (by simp [results, Tryd.results16, go_sem, textOut, c0, c1, c2, hz]) rfl ⟨rfl, ?_⟩
          exact (below_three (below_one hb1) (Nat.le_refl _) _ _ _).alloc (below_three (below_one hb1) (Nat.le_refl _) _ _ _).size _
        · rw [if_neg h3]
          obtain ⟨A, rfl⟩ : ∃ A : Nat, a = A := ⟨a.toNat, by omega⟩
          obtain ⟨M, rfl⟩ : ∃ M : Nat, n = M := ⟨n.toNat, by omega⟩
          have hAM : (A : Int) + (M : Int) = ((A + M : Nat) : Int) := rfl
          rw [hAM, Int.toNat_natCast, Int.toNat_natCast]
          have hle : A + M ≤ s.size := by omega
          have hi0 : (0 : Int) ≤ (A : Int) := by omega
          have hi1 : (A : Int) ≤ (A : Int) + (M : Int) := by omega
          have hi2 : (A : Int) + (M : Int) ≤ (s.size : Int) := by omega
          have htn : ((A : Int) + (M : Int)).toNat = A + M := by omega
          have hwr : IntKind.i64.wrap ((A : Int) + (M : Int)) = (A : Int) + (M : Int) := IntWalk.i64_in _ (by omega)
          clear h1 h2 h3 ha0 ha1 hAM
          go_enter Tryd.func16, Tryd.ntmps16
          go_wp2_with (first
            | (go_at_call 14; refine (spec_getnum s at_ _ hs ha).mono ?_; rintro e w1 ⟨rfl, hb1⟩; obtain ⟨⟨c0, c1, c2⟩, ⟨f0, f1, f2⟩, hz⟩ := three_kept hb1; rw [HV.out]; unfold numOut))
          go_region
          go_wp2
          refine bodyPost_ret (v := textOut (s.extract A (A + M)) ((A + M : Nat) : Int) 0) (by simp [results, Tryd.results16, go_sem, textOut, c0, c1, c2, hz]) rfl ⟨rfl, ?_⟩
          first
            | exact (below_three (below_one hb1) (Nat.le_refl _) _ _ _).alloc (below_three (below_one hb1) (Nat.le_refl _) _ _ _).size _
            | exact ((below_three (below_one hb1) (Nat.le_refl _) _ _ _).alloc (below_three (below_one hb1) (Nat.le_refl _) _ _ _).size _).drew
  · clear hv
    rw [if_pos h0]
    go_enter Tryd.func16, Tryd.ntmps16
    go_wp2_with (first
      | (go_at_call 14; refine (spec_getnum s at_ _ hs ha).mono ?_; rintro e w1 ⟨rfl, hb1⟩; obtain ⟨⟨c0, c1, c2⟩, ⟨f0, f1, f2⟩, hz⟩ := three_kept hb1; rw [HV.out]; unfold numOut))
    refine bodyPost_ret (v := textOut ⟨#[]⟩ 0 c) (by simp [results, Tryd.results16, go_sem, textOut, c0, c1, c2, hz]) rfl ⟨rfl, ?_⟩
    exact (below_three (below_one hb1) (Nat.le_refl _) _ _ _).alloc (below_three (below_one hb1) (Nat.le_refl _) _ _ _).size _

theorem getTextV_form (s : ByteArray) (n a c : Int) : ∃ t b d, getTextV s n a c = textOut t b d := by
  unfold getTextV
  split
  · exact ⟨_, _, _, rfl⟩
  · split
    · exact ⟨_, _, _, rfl⟩
    · split
      · exact ⟨_, _, _, rfl⟩
      · exact ⟨_, _, _, rfl⟩

set_option maxRecDepth 100000 in
theorem eq_textoutd (t : ByteArray) (a c : Int) (w : World) :
    Calls Tryd.prog 17 #[textOut t a c, textOut t a c] w fun e w' => e = .returned (.bool true) ∧ Below w.heap.size w w' := by
  unfold textOut
  go_enter Tryd.func17, Tryd.ntmps17
  go_wp2
  go_ret
  exact ⟨rfl, ((Below.refl _ _).alloc (Nat.le_refl _) _).alloc (by simp) _⟩
end Go.Proofs.YtnejnhfdinmicaaDoor
