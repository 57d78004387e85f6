/- What the tests of a stream's head answer, the program's and the specification's. -/
import Derived.Test.YtkjkfcljejjpbaaDoorJidSpec
namespace Go.Proofs.YtkjkfcljejjpbaaDoor
set_option linter.unusedSimpArgs false
set_option linter.unusedVariables false
open Go.RowKit

/-- A valid head. -/
noncomputable def hdB (f o : ByteArray) (n : Int) : Bool := domB f && domB o && (decide (1 ≤ n) && decide (n ≤ 1000000000))
theorem hd_maxN {w : World} (h : MaxL w) (o : Obj) (n : Nat) : MaxL ((w.alloc o).drewN n) := h.below (below_drewN ((Below.refl w.heap.size w).alloc (Nat.le_refl _) o) n) h.pos
theorem hd_max {w : World} (h : MaxL w) (o : Obj) : MaxL (w.alloc o) := h.below ((Below.refl w.heap.size w).alloc (Nat.le_refl _) o) h.pos
theorem impl_isid (n : Int) (w : World) : Calls Tryd.prog 37 #[.int .i64 n] w (SaysB (decide (1 ≤ n) && decide (n ≤ 1000000000)) w) := by
  have hd : n < 1 ∨ 1 ≤ n ∧ n ≤ 1000000000 ∨ 1000000000 < n := by omega
  rcases hd with h | ⟨h, h'⟩ | h
  · rw [show decide (1 ≤ n) = false by simp; omega]
    go_enter Tryd.func37, Tryd.ntmps37
    go_wp2
    go_ret
    exact ⟨ret_bool (by first | (simp; done) | (simp; omega)), rfl⟩
  · rw [show decide (1 ≤ n) = true by simpa using h, show decide (n ≤ 1000000000) = true by simpa using h']
    go_enter Tryd.func37, Tryd.ntmps37
    go_wp2
    go_ret
    exact ⟨ret_bool (by first | (simp; done) | (simp; omega)), rfl⟩
  · rw [show decide (n ≤ 1000000000) = false by simp; omega, Bool.and_false]
    go_enter Tryd.func37, Tryd.ntmps37
    go_wp2
    go_ret
    exact ⟨ret_bool (by first | (simp; done) | (simp; omega)), rfl⟩
theorem spec_dom5 (s : ByteArray) (w : World) (hs : s.size ≤ maxLen) : Calls Tryd.prog 31 #[.string s] w (SaysB (domB s) w) := by
  have i1 := fun w => spec_domain s w hs
  go_enter Tryd.func31, Tryd.ntmps31
  go_wp2_with (go_at_call 41; go_fit (i1 _); rintro e w' ⟨rfl, rfl⟩)
  go_ret
  exact ⟨rfl, rfl⟩
theorem spec_is5 (n : Int) (w : World) : Calls Tryd.prog 35 #[.int .i64 n, .int .i64 1, .int .i64 1000000000] w (SaysB (decide (1 ≤ n) && decide (n ≤ 1000000000)) w) := by
  have hd : n < 1 ∨ 1 ≤ n ∧ n ≤ 1000000000 ∨ 1000000000 < n := by omega
  rcases hd with h | ⟨h, h'⟩ | h
  · rw [show decide (1 ≤ n) = false by simp; omega]
    go_enter Tryd.func35, Tryd.ntmps35
    go_wp2
    go_ret
    exact ⟨ret_bool (by first | (simp; done) | (simp; omega)), rfl⟩
  · rw [show decide (1 ≤ n) = true by simpa using h, show decide (n ≤ 1000000000) = true by simpa using h']
    go_enter Tryd.func35, Tryd.ntmps35
    go_wp2
    go_ret
    exact ⟨ret_bool (by first | (simp; done) | (simp; omega)), rfl⟩
  · rw [show decide (n ≤ 1000000000) = false by simp; omega, Bool.and_false]
    go_enter Tryd.func35, Tryd.ntmps35
    go_wp2
    go_ret
    exact ⟨ret_bool (by first | (simp; done) | (simp; omega)), rfl⟩
end Go.Proofs.YtkjkfcljejjpbaaDoor
