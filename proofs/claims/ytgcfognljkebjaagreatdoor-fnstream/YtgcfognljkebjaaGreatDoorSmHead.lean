/- What the tests of a stream's head answer, the program's and the specification's. -/
import Derived.Test.YtgcfognljkebjaaGreatDoorJidSpec
namespace Go.Proofs.YtgcfognljkebjaaGreatDoor
set_option linter.unusedSimpArgs false
set_option linter.unusedVariables false
open Go.RowKit

/-- A valid head. -/
noncomputable def hdB (f o : ByteArray) (n : Int) : Bool := domB f && domB o && (decide (1 ≤ n) && decide (n ≤ 1000000000))
theorem hd_maxN {w : World} (h : MaxL w) (o : Obj) (n : Nat) : MaxL ((w.alloc o).drewN n) := h.below (below_drewN ((Below.refl w.heap.size w).alloc (Nat.le_refl _) o) n) h.pos
theorem hd_max {w : World} (h : MaxL w) (o : Obj) : MaxL (w.alloc o) := h.below ((Below.refl w.heap.size w).alloc (Nat.le_refl _) o) h.pos
theorem impl_isid (n : Int) (w : World) : Calls Tryz.prog 58 #[.int .i64 n] w (SaysB (decide (1 ≤ n) && decide (n ≤ 1000000000)) w) := by
  have hd : n < 1 ∨ 1 ≤ n ∧ n ≤ 1000000000 ∨ 1000000000 < n := by omega
  rcases hd with h | ⟨h, h'⟩ | h
  · rw [show decide (1 ≤ n) = false by simp; omega]
    go_enter Tryz.func58, Tryz.ntmps58
    go_wp2
    go_ret
    exact ⟨ret_bool (by first | (simp; done) | (simp; omega)), rfl⟩
  · rw [show decide (1 ≤ n) = true by simpa using h, show decide (n ≤ 1000000000) = true by simpa using h']
    go_enter Tryz.func58, Tryz.ntmps58
    go_wp2
    go_ret
    exact ⟨ret_bool (by first | (simp; done) | (simp; omega)), rfl⟩
  · rw [show decide (n ≤ 1000000000) = false by simp; omega, Bool.and_false]
    go_enter Tryz.func58, Tryz.ntmps58
    go_wp2
    go_ret
    exact ⟨ret_bool (by first | (simp; done) | (simp; omega)), rfl⟩
set_option maxHeartbeats 1000000 in
theorem impl_head (f o : ByteArray) (n : Int) (w : World) (hf : f.size ≤ maxLen) (ho : o.size ≤ maxLen) (hm : MaxL w) :
    Calls Tryz.prog 42 #[.agg #[.string f, .string o, .int .i64 n]] w fun e w' => e = .returned (.bool (hdB f o n)) ∧ Below w.heap.size w w' := by
  obtain ⟨b1, h1⟩ : ∃ b, domB f = b := ⟨_, rfl⟩
  obtain ⟨b2, h2⟩ : ∃ b, domB o = b := ⟨_, rfl⟩
  have i1 := fun w => impl_domain f w hf
  have i2 := fun w => impl_domain o w ho
  have i3 := fun w => impl_isid n w
  rw [h1] at i1
  rw [h2] at i2
  unfold hdB
  rw [h1, h2]
  clear h1 h2
  obtain ⟨b3, h3⟩ : ∃ b, (decide (1 ≤ n) && decide (n ≤ 1000000000)) = b := ⟨_, rfl⟩
  rw [h3] at i3 ⊢
  clear h3
  have HM := Lib.hid (fun o => hd_max hm o)
  have HN := Lib.hid (fun o n => hd_maxN hm o n)
  clear hm
  cases b1 <;> cases b2 <;>
    (go_enter Tryz.func42, Tryz.ntmps42
     go_wp2_with (first
       | (go_at_call 57; go_fit (i1 _ (HM.out _)); rintro e w' ⟨rfl, n1, rfl⟩)
       | (go_at_call 57; go_fit (i2 _ (HN.out _ _)); rintro e w' ⟨rfl, n2, rfl⟩)
       | (go_at_call 58; go_fit (i3 _); rintro e w' ⟨rfl, rfl⟩))
     go_ret
     exact ⟨ret_bool (by simp), below_drewN ((Below.refl _ _).alloc (Nat.le_refl _) _) _⟩)
theorem spec_dom5 (s : ByteArray) (w : World) (hs : s.size ≤ maxLen) : Calls Tryz.prog 59 #[.string s] w (SaysB (domB s) w) := by
  have i1 := fun w => spec_domain s w hs
  go_enter Tryz.func59, Tryz.ntmps59
  go_wp2_with (go_at_call 76; go_fit (i1 _); rintro e w' ⟨rfl, rfl⟩)
  go_ret
  exact ⟨rfl, rfl⟩
theorem spec_is5 (n : Int) (w : World) : Calls Tryz.prog 60 #[.int .i64 n, .int .i64 1, .int .i64 1000000000] w (SaysB (decide (1 ≤ n) && decide (n ≤ 1000000000)) w) := by
  have hd : n < 1 ∨ 1 ≤ n ∧ n ≤ 1000000000 ∨ 1000000000 < n := by omega
  rcases hd with h | ⟨h, h'⟩ | h
  · rw [show decide (1 ≤ n) = false by simp; omega]
    go_enter Tryz.func60, Tryz.ntmps60
    go_wp2
    go_ret
    exact ⟨ret_bool (by first | (simp; done) | (simp; omega)), rfl⟩
  · rw [show decide (1 ≤ n) = true by simpa using h, show decide (n ≤ 1000000000) = true by simpa using h']
    go_enter Tryz.func60, Tryz.ntmps60
    go_wp2
    go_ret
    exact ⟨ret_bool (by first | (simp; done) | (simp; omega)), rfl⟩
  · rw [show decide (n ≤ 1000000000) = false by simp; omega, Bool.and_false]
    go_enter Tryz.func60, Tryz.ntmps60
    go_wp2
    go_ret
    exact ⟨ret_bool (by first | (simp; done) | (simp; omega)), rfl⟩
set_option maxHeartbeats 1000000 in
theorem spec_head (f o : ByteArray) (n : Int) (w : World) (hf : f.size ≤ maxLen) (ho : o.size ≤ maxLen) :
    Calls Tryz.prog 44 #[.agg #[.string f, .string o, .int .i64 n]] w fun e w' => e = .returned (.bool (hdB f o n)) ∧ Below w.heap.size w w' := by
  obtain ⟨b1, h1⟩ : ∃ b, domB f = b := ⟨_, rfl⟩
  obtain ⟨b2, h2⟩ : ∃ b, domB o = b := ⟨_, rfl⟩
  have i1 := fun w => spec_dom5 f w hf
  have i2 := fun w => spec_dom5 o w ho
  have i3 := fun w => spec_is5 n w
  rw [h1] at i1
  rw [h2] at i2
  unfold hdB
  rw [h1, h2]
  clear h1 h2
  obtain ⟨b3, h3⟩ : ∃ b, (decide (1 ≤ n) && decide (n ≤ 1000000000)) = b := ⟨_, rfl⟩
  rw [h3] at i3 ⊢
  clear h3
  cases b1 <;> cases b2 <;>
    (go_enter Tryz.func44, Tryz.ntmps44
     go_wp2_with (first
       | (go_at_call 59; go_fit (i1 _); rintro e w' ⟨rfl, rfl⟩)
       | (go_at_call 59; go_fit (i2 _); rintro e w' ⟨rfl, rfl⟩)
       | (go_at_call 60; go_fit (i3 _); rintro e w' ⟨rfl, rfl⟩))
     go_ret
     exact ⟨ret_bool (by simp), (Below.refl _ _).alloc (Nat.le_refl _) _⟩)
end Go.Proofs.YtgcfognljkebjaaGreatDoor
