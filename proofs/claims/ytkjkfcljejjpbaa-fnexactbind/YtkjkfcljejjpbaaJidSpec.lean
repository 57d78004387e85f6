/- What the specification's tests of an address answer. -/
import Derived.Test.YtkjkfcljejjpbaaJidRight
namespace Go.Proofs.Ytkjkfcljejjpbaa
set_option linter.unusedSimpArgs false
set_option linter.unusedVariables false
open Go.RowKit

def plainB (c : Nat) (others : ByteArray) : Bool := letC c || digC c || !allC (fun x => decide (x ≠ c)) others
theorem plain_yes {c : Nat} {o : ByteArray} (h : 97 ≤ (c : Int) ∧ (c : Int) ≤ 122 ∨ 48 ≤ (c : Int) ∧ (c : Int) ≤ 57) : plainB c o = true := by
  have : (letC c || digC c) = true := by
    unfold letC digC
    simp
    omega
  unfold plainB
  rw [this]
  rfl
theorem plain_no {c : Nat} {o : ByteArray} (h : (c : Int) < 48 ∨ 57 < (c : Int) ∧ (c : Int) < 97 ∨ 122 < (c : Int)) : plainB c o = !allC (fun x => decide (x ≠ c)) o := by
  have : (letC c || digC c) = false := by
    unfold letC digC
    rw [Bool.eq_false_iff]
    intro h
    simp at h
    omega
  unfold plainB
  rw [this]
  rfl
theorem plain_loc (c : Nat) : plainB c ⟨#[46, 95, 45]⟩ = locC c := by
  unfold plainB locC domC sepC allC
  cases letC c <;> cases digC c <;> (rw [Bool.eq_iff_iff]; simp; try omega)
theorem plain_dom (c : Nat) : plainB c ⟨#[46, 45]⟩ = domC c := by
  unfold plainB domC sepC allC
  cases letC c <;> cases digC c <;> (rw [Bool.eq_iff_iff]; simp; try omega)
set_option maxHeartbeats 4000000 in
theorem spec_resource (s : ByteArray) (w : World) (hs : s.size ≤ maxLen) : Calls Try.prog 87 #[.string s] w (SaysB (partB resC s) w) := by
  unfold maxLen at hs
  go_enter Try.func87, Try.ntmps87
  go_wp2
  go_loop [3] (fun i => ∃ k : Nat, k ≤ s.size ∧ i = .int .i64 k ∧ Upto resC s k) (fun i => s.size - (intOf i).toNat)
  case atStart => exact ⟨0, Nat.zero_le _, rfl, upto_zero _ _⟩
  case round =>
    obtain ⟨k, hk, rfl, hall⟩ := hrel
    have HA := Lib.hid hall
    clear hall
    by_cases hlt : k < s.size
    · go_wp2
      all_goals first
        | (go_ret
           refine ⟨ret_bool ?_, rfl⟩
           unfold partB
           rw [all_no hlt (by clear HA; (try simp only [beq_iff_eq, beq_eq_false_iff_ne] at *); unfold resC; simp; omega), Bool.and_false])
        | (go_round
           case rel => exact ⟨k + 1, by omega, by go_num, upto_succ HA.out hlt (by clear HA; (try simp only [beq_iff_eq, beq_eq_false_iff_ne] at *); unfold resC; simp; omega)⟩
           case measure => simp [intOf]; omega)
    · go_wp2
      go_ret
      exact ⟨ret_bool (by unfold partB; rw [upto_all HA.out hlt, Bool.and_true]; simp; omega), rfl⟩
theorem noDots_zero (s : ByteArray) : NoDots s 0 := fun _ _ h => absurd h (Nat.not_lt_zero _)
theorem noDots_succ {s : ByteArray} {k : Nat} (h : NoDots s k) (h1 : ∀ j (hj : j + 1 < s.size), j + 1 = k → ¬ (s[j].toNat = 46 ∧ s[j + 1].toNat = 46)) : NoDots s (k + 1) := by
  intro j hj hlt
  by_cases e : j + 1 = k
  · exact h1 j hj e
  · exact h j hj (by omega)
end Go.Proofs.Ytkjkfcljejjpbaa
