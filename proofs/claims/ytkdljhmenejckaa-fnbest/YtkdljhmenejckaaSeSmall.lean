/- The small tests of a session's fields, the program's and the specification's. -/
import Derived.Test.YtkdljhmenejckaaSeMath
import Derived.Test.YtkdljhmenejckaaSeCmp
import Derived.Test.YtkdljhmenejckaaJidSpec
import Derived.Deep.DeepFit
namespace Go.Proofs.Ytkdljhmenejckaa
set_option linter.unusedSimpArgs false
set_option linter.unusedVariables false
open Go.RowKit

theorem ba_ext {s : ByteArray} {l : List UInt8} (h : s.toList = l) : s = ⟨l.toArray⟩ := by
  rw [ByteArray.toList_eq] at h
  obtain ⟨⟨d⟩⟩ := s
  have h' : d = l := h
  rw [h']
theorem empty_size {s : ByteArray} : (s.toList = [] ↔ s.size = 0) := by
  constructor
  · intro h
    rw [ba_ext h]
    rfl
  · intro h
    have : s = ByteArray.empty := size_zero h
    rw [this, ByteArray.toList_eq]
    rfl
theorem isEmpty_size (s : ByteArray) : s.toList.isEmpty = decide (s.size = 0) := by
  by_cases h : s.size = 0
  · rw [empty_size.2 h, decide_eq_true h]; rfl
  · rw [decide_eq_false h]
    cases e : s.toList with
    | nil => exact absurd (empty_size.1 e) h
    | cons a l => rfl
set_option maxHeartbeats 1000000 in
theorem impl_res9 (t : ByteArray) (w : World) (ht : t.size ≤ maxLen) : Calls Try.prog 58 #[.string t] w (SaysB (resB t) w) := by
  have i1 := fun w => impl_part_res t w ht
  obtain ⟨b, hb⟩ : ∃ b, partB resC t = b := ⟨_, rfl⟩
  rw [hb] at i1
  unfold resB
  rw [hb]
  by_cases h0 : t.size = 0
  · rw [decide_eq_false (show ¬ 0 < t.size by omega)]
    obtain rfl := size_zero h0
    go_enter Try.func58, Try.ntmps58
    go_wp2
    go_ret
    exact ⟨ret_bool (by simp), rfl⟩
  · rw [decide_eq_true (show 0 < t.size by omega)]
    have h1 : t.toList ≠ [] := fun e => h0 (empty_size.1 e)
    have h2 : t.toList.isEmpty = false := by rw [isEmpty_size, decide_eq_false h0]
    go_enter Try.func58, Try.ntmps58
    go_wp2_with (go_at_call 94; go_fit (i1 _); rintro e w' ⟨rfl, rfl⟩)
    go_ret
    exact ⟨ret_bool (by simp), rfl⟩
set_option maxHeartbeats 1000000 in
theorem spec_res9 (t : ByteArray) (w : World) (ht : t.size ≤ maxLen) : Calls Try.prog 65 #[.string t] w (SaysB (resB t) w) := by
  have i1 := fun w => spec_resource t w ht
  obtain ⟨b, hb⟩ : ∃ b, partB resC t = b := ⟨_, rfl⟩
  rw [hb] at i1
  unfold resB
  rw [hb]
  by_cases h0 : t.size = 0
  · rw [decide_eq_false (show ¬ 0 < t.size by omega)]
    obtain rfl := size_zero h0
    go_enter Try.func65, Try.ntmps65
    go_wp2
    go_ret
    exact ⟨ret_bool (by simp), rfl⟩
  · rw [decide_eq_true (show 0 < t.size by omega)]
    have h1 : t.toList ≠ [] := fun e => h0 (empty_size.1 e)
    have h2 : t.toList.isEmpty = false := by rw [isEmpty_size, decide_eq_false h0]
    go_enter Try.func65, Try.ntmps65
    go_wp2_with (go_at_call 99; go_fit (i1 _); rintro e w' ⟨rfl, rfl⟩)
    go_ret
    exact ⟨ret_bool (by simp), rfl⟩
theorem show_cases (t : ByteArray) : t = ⟨#[]⟩ ∨ t = ⟨#[97, 119, 97, 121]⟩ ∨ t = ⟨#[99, 104, 97, 116]⟩ ∨ t = ⟨#[100, 110, 100]⟩ ∨ t = ⟨#[120, 97]⟩ ∨
    (t.toList ≠ [] ∧ (t.toList == [97, 119, 97, 121]) = false ∧ (t.toList == [99, 104, 97, 116]) = false ∧ (t.toList == [100, 110, 100]) = false ∧ (t.toList == [120, 97]) = false) := by
  by_cases h0 : t.toList = []
  · exact .inl (ba_ext h0)
  by_cases h1 : t.toList = [97, 119, 97, 121]
  · exact .inr (.inl (ba_ext h1))
  by_cases h2 : t.toList = [99, 104, 97, 116]
  · exact .inr (.inr (.inl (ba_ext h2)))
  by_cases h3 : t.toList = [100, 110, 100]
  · exact .inr (.inr (.inr (.inl (ba_ext h3))))
  by_cases h4 : t.toList = [120, 97]
  · exact .inr (.inr (.inr (.inr (.inl (ba_ext h4)))))
  exact .inr (.inr (.inr (.inr (.inr ⟨h0, beq_eq_false_iff_ne.2 h1, beq_eq_false_iff_ne.2 h2, beq_eq_false_iff_ne.2 h3, beq_eq_false_iff_ne.2 h4⟩))))
theorem show_no {t : ByteArray} (h0 : t.toList ≠ []) (h1 : (t.toList == [97, 119, 97, 121]) = false) (h2 : (t.toList == [99, 104, 97, 116]) = false) (h3 : (t.toList == [100, 110, 100]) = false) (h4 : (t.toList == [120, 97]) = false) : showB t = false := by
  unfold showB
  rw [beq_eq_false_iff_ne] at h1 h2 h3 h4
  simp [h0, h1, h2, h3, h4]
set_option maxHeartbeats 2000000 in
theorem impl_show9 (t : ByteArray) (w : World) : Calls Try.prog 106 #[.string t] w (SaysB (showB t) w) := by
  rcases show_cases t with rfl | rfl | rfl | rfl | rfl | ⟨h0, h1, h2, h3, h4⟩
  iterate 5
    · go_enter Try.func106, Try.ntmps106
      go_wp2
      go_ret
      exact ⟨ret_bool (by unfold showB; rw [ByteArray.toList_eq]; decide), rfl⟩
  · have h5 : t.toList.isEmpty = false := by rw [isEmpty_size, decide_eq_false (fun e => h0 (empty_size.2 e))]
    rw [show_no h0 h1 h2 h3 h4]
    go_enter Try.func106, Try.ntmps106
    go_wp2
    go_ret
    exact ⟨rfl, rfl⟩
theorem show_any (t : ByteArray) : ([⟨#[]⟩, ⟨#[97, 119, 97, 121]⟩, ⟨#[99, 104, 97, 116]⟩, ⟨#[100, 110, 100]⟩, ⟨#[120, 97]⟩].any fun x : ByteArray => x.toList == t.toList) = showB t := by
  rcases show_cases t with rfl | rfl | rfl | rfl | rfl | ⟨h0, h1, h2, h3, h4⟩
  iterate 5 · (unfold showB; simp only [ByteArray.toList_eq]; decide)
  rw [show_no h0 h1 h2 h3 h4, List.any_eq_false]
  intro x hx
  rw [beq_eq_false_iff_ne] at h1 h2 h3 h4
  simp only [List.mem_cons, List.not_mem_nil, or_false] at hx
  rw [beq_iff_eq]
  intro e
  rcases hx with rfl | rfl | rfl | rfl | rfl <;> rw [ByteArray.toList_eq] at e
  · exact h0 e.symm
  · exact h1 e.symm
  · exact h2 e.symm
  · exact h3 e.symm
  · exact h4 e.symm
set_option maxRecDepth 100000 in
set_option maxHeartbeats 1000000 in
theorem spec_in9 (b c : Nat) (ks : List ByteArray) (k : ByteArray) (w : World) (hlen : ks.length ≤ 1000) (hc : ∀ j (h : j < ks.length), w.cell? ⟨b, j, none⟩ = some (.string ks[j])) :
    Calls Try.prog 100 #[.slice (some ⟨b, 0, none⟩) ks.length c, .string k] w (SaysB (ks.any fun x => x.toList == k.toList) w) := by
  have HC := Lib.hid hc
  clear hc
  go_enter Try.func100, Try.ntmps100
  go_wp2
  go_loop [5] (fun i => ∃ j : Nat, j ≤ ks.length ∧ i = .int .i64 j ∧ ∀ m (h : m < ks.length), m < j → (ks[m].toList == k.toList) = false) (fun i => ks.length - (intOf i).toNat)
  case atStart => exact ⟨0, Nat.zero_le _, rfl, fun _ _ h => absurd h (Nat.not_lt_zero _)⟩
  case round =>
    obtain ⟨j, hj, rfl, hno⟩ := hrel
    have HN := Lib.hid hno
    clear hno
    by_cases hlt : j < ks.length
    · have hcell := HC.out j hlt
      obtain ⟨x, hx⟩ : ∃ x, x = ks[j] := ⟨_, rfl⟩
      rw [← hx] at hcell
      obtain ⟨b1, h1⟩ : ∃ b, (x.toList == k.toList) = b := ⟨_, rfl⟩
      have HX := Lib.hid hx
      clear hx
      cases b1
      · go_wp2
        refine ⟨⟨j + 1, hlt, rfl, fun m hm h => ?_⟩, by simp [intOf]; omega⟩
        by_cases e : m < j
        · exact HN.out m hm e
        · obtain rfl : m = j := by omega
          rw [← HX.out]
          exact h1
      · have HA : Hid ((ks.any fun x => x.toList == k.toList) = true) := Lib.hid (List.any_eq_true.2 ⟨x, by rw [HX.out]; exact List.getElem_mem hlt, h1⟩)
        go_wp2
        go_ret
        exact ⟨ret_bool HA.out.symm, rfl⟩
    · have HA : Hid ((ks.any fun x => x.toList == k.toList) = false) := Lib.hid (by
        rw [List.any_eq_false]
        intro x hx
        obtain ⟨m, hm, rfl⟩ := List.mem_iff_getElem.1 hx
        rw [HN.out m hm (by omega)]
        decide)
      go_wp2
      go_ret
      exact ⟨ret_bool HA.out.symm, rfl⟩
set_option maxRecDepth 100000 in
set_option maxHeartbeats 1000000 in
theorem spec_show9 (t : ByteArray) (w : World) : Calls Try.prog 69 #[.string t] w fun e w' => e = .returned (.bool (showB t)) ∧ Below w.heap.size w w' := by
  have i1 := fun W hc => spec_in9 w.heap.size 5 [⟨#[]⟩, ⟨#[97, 119, 97, 121]⟩, ⟨#[99, 104, 97, 116]⟩, ⟨#[100, 110, 100]⟩, ⟨#[120, 97]⟩] t W (by decide) hc
  rw [show_any] at i1
  have hA := Arr.fresh w 9 [.string ⟨#[]⟩, .string ⟨#[97, 119, 97, 121]⟩, .string ⟨#[99, 104, 97, 116]⟩, .string ⟨#[100, 110, 100]⟩, .string ⟨#[120, 97]⟩]
  have HC : Hid (∀ j (h : j < [(⟨#[]⟩ : ByteArray), ⟨#[97, 119, 97, 121]⟩, ⟨#[99, 104, 97, 116]⟩, ⟨#[100, 110, 100]⟩, ⟨#[120, 97]⟩].length), (w.alloc (.cells #[.string ⟨#[]⟩, .string ⟨#[97, 119, 97, 121]⟩, .string ⟨#[99, 104, 97, 116]⟩, .string ⟨#[100, 110, 100]⟩, .string ⟨#[120, 97]⟩] 9)).cell? ⟨w.heap.size, j, none⟩ = some (.string [(⟨#[]⟩ : ByteArray), ⟨#[97, 119, 97, 121]⟩, ⟨#[99, 104, 97, 116]⟩, ⟨#[100, 110, 100]⟩, ⟨#[120, 97]⟩][j])) := Lib.hid (by
    intro j hj
    match j, hj with
    | 0, _ => exact hA.cell 0
    | 1, _ => exact hA.cell 1
    | 2, _ => exact hA.cell 2
    | 3, _ => exact hA.cell 3
    | 4, _ => exact hA.cell 4)
  clear hA
  go_enter Try.func69, Try.ntmps69
  go_wp2_with (go_at_call 100; go_fit (i1 _ HC.out); rintro e w' ⟨rfl, rfl⟩)
  go_ret
  exact ⟨rfl, (Below.refl _ _).alloc (Nat.le_refl _) _⟩
theorem spec_is9 (z lo hi : Int) (w : World) : Calls Try.prog 68 #[.int .i64 z, .int .i64 lo, .int .i64 hi] w (SaysB (decide (lo ≤ z) && decide (z ≤ hi)) w) := by
  have hd : z < lo ∨ lo ≤ z ∧ z ≤ hi ∨ lo ≤ z ∧ hi < z := by omega
  rcases hd with h | ⟨h, h'⟩ | ⟨h, h'⟩
  · rw [show decide (lo ≤ z) = false by simp; omega]
    go_enter Try.func68, Try.ntmps68
    go_wp2
    go_ret
    exact ⟨ret_bool (by first | (simp; done) | (simp; omega)), rfl⟩
  · rw [show decide (lo ≤ z) = true by simpa using h, show decide (z ≤ hi) = true by simpa using h']
    go_enter Try.func68, Try.ntmps68
    go_wp2
    go_ret
    exact ⟨ret_bool (by first | (simp; done) | (simp; omega)), rfl⟩
  · rw [show decide (z ≤ hi) = false by simp; omega, Bool.and_false]
    go_enter Try.func68, Try.ntmps68
    go_wp2
    go_ret
    exact ⟨ret_bool (by first | (simp; done) | (simp; omega)), rfl⟩
end Go.Proofs.Ytkdljhmenejckaa
