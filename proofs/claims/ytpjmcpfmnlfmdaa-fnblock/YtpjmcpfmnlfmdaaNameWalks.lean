/- What impl.NameRight and spec.NameRight answer at every string: nameB. -/
import Derived.Test.YtpjmcpfmnlfmdaaChecked
import Derived.Test.YtpjmcpfmnlfmdaaMath
import Derived.WalkKit
import Derived.ProofKit
import Derived.OpenShut
import Derived.Lib.Hide
namespace Go.Proofs.Ytpjmcpfmnlfmdaa
open Go.RowKit



def letN (c : Nat) : Prop := 97 ≤ c ∧ c ≤ 122
def moreN (c : Nat) : Prop := 97 ≤ c ∧ c ≤ 122 ∨ 48 ≤ c ∧ c ≤ 57 ∨ c = 95
instance (c : Nat) : Decidable (letN c) := by unfold letN; infer_instance
instance (c : Nat) : Decidable (moreN c) := by unfold moreN; infer_instance
def nameAt (s : ByteArray) (k : Nat) : Prop := ∀ h : k < s.size, if k = 0 then letN s[k].toNat else moreN s[k].toNat
def nameP (s : ByteArray) : Prop := 1 ≤ s.size ∧ s.size ≤ 20 ∧ ∀ k, nameAt s k
open Classical in
noncomputable def nameB (s : ByteArray) : Bool := decide (nameP s)
theorem nameB_true {s : ByteArray} (h : nameP s) : nameB s = true := by unfold nameB; simpa using h
theorem nameB_false {s : ByteArray} (h : ¬ nameP s) : nameB s = false := by unfold nameB; simpa using h
theorem name_no {s : ByteArray} {k : Nat} (hlt : k < s.size) (h : nameP s) : k = 0 ∧ 97 ≤ (s[k].toNat : Int) ∧ (s[k].toNat : Int) ≤ 122 ∨ 0 < k ∧ (97 ≤ (s[k].toNat : Int) ∧ (s[k].toNat : Int) ≤ 122 ∨ 48 ≤ (s[k].toNat : Int) ∧ (s[k].toNat : Int) ≤ 57 ∨ (s[k].toNat : Int) = 95) := by
  have hx := h.2.2 k hlt
  by_cases hk : k = 0
  · rw [if_pos hk] at hx; unfold letN at hx; omega
  · rw [if_neg hk] at hx; unfold moreN at hx; omega
theorem name_go {s : ByteArray} {k : Nat} (hlt : k < s.size) (hall : ∀ j, j < k → nameAt s j) (h : k = 0 ∧ 97 ≤ (s[k].toNat : Int) ∧ (s[k].toNat : Int) ≤ 122 ∨ 0 < k ∧ (97 ≤ (s[k].toNat : Int) ∧ (s[k].toNat : Int) ≤ 122 ∨ 48 ≤ (s[k].toNat : Int) ∧ (s[k].toNat : Int) ≤ 57 ∨ (s[k].toNat : Int) = 95)) : ∀ j, j < k + 1 → nameAt s j := by
  intro j hj
  by_cases hjk : j = k
  · subst hjk
    intro h'
    by_cases hk : j = 0
    · rw [if_pos hk]; unfold letN; omega
    · rw [if_neg hk]; unfold moreN; omega
  · exact hall j (by omega)

set_option maxHeartbeats 400000 in
theorem spec_name (s : ByteArray) (w : World) (hs : s.size ≤ maxLen) :
    Calls Try.prog 65 #[.string s] w fun e w' => e = .returned (.bool (nameB s)) ∧ w = w' := by
  unfold maxLen at hs
  by_cases h1 : 1 ≤ s.size ∧ s.size ≤ 20
  · obtain ⟨h1, h2⟩ := h1
    go_enter Try.func65, Try.ntmps65
    go_wp2
    go_loop [3] (fun i => ∃ k : Nat, k ≤ s.size ∧ i = .int .i64 k ∧ ∀ j, j < k → nameAt s j) (fun i => s.size - (intOf i).toNat)
    case atStart => exact ⟨0, Nat.zero_le _, rfl, fun j hj => absurd hj (Nat.not_lt_zero _)⟩
    case round =>
      obtain ⟨k, hk, rfl, hall⟩ := hrel
      have HA := Lib.hid hall
      clear hall
      by_cases hlt : k < s.size
      · rcases Nat.eq_zero_or_pos k with hk0 | hk0
        · subst hk0
          go_wp2
          all_goals first
            | (go_ret; refine ⟨ret_bool (nameB_false (fun h => ?_)).symm, rfl⟩; have hx := name_no hlt h; clear h HA; simp at *; omega)
            | (go_round
               case rel => exact ⟨0 + 1, by omega, by go_num, name_go hlt HA.out (by clear HA; simp at *; omega)⟩
               case measure => simp [intOf]; omega)
        · go_wp2
          all_goals first
            | (go_ret; refine ⟨ret_bool (nameB_false (fun h => ?_)).symm, rfl⟩; have hx := name_no hlt h; clear h HA; simp at *; omega)
            | (go_round
               case rel => exact ⟨k + 1, by omega, by go_num, name_go hlt HA.out (by clear HA; simp at *; omega)⟩
               case measure => simp [intOf]; omega)
      · go_wp2
        go_ret
        exact ⟨ret_bool (nameB_true ⟨h1, h2, fun j => by
          by_cases hj : j < k
          · exact HA.out j hj
          · intro h; omega⟩).symm, rfl⟩
  · have hf := nameB_false (s := s) (fun h => h1 ⟨h.1, h.2.1⟩)
    have HF := Lib.hid hf
    clear hf
    by_cases h2 : s.size < 1
    · clear h1
      go_enter Try.func65, Try.ntmps65
      go_wp2
      go_ret
      exact ⟨ret_bool HF.out.symm, rfl⟩
    · have h3 : 20 < s.size := by omega
      clear h1
      go_enter Try.func65, Try.ntmps65
      go_wp2
      go_ret
      exact ⟨ret_bool HF.out.symm, rfl⟩

set_option maxHeartbeats 400000 in
theorem impl_name (s : ByteArray) (w : World) (hs : s.size ≤ maxLen) :
    Calls Try.prog 89 #[.string s] w fun e w' => e = .returned (.bool (nameB s)) ∧ w = w' := by
  unfold maxLen at hs
  by_cases h1 : 1 ≤ s.size ∧ s.size ≤ 20
  · obtain ⟨h1, h2⟩ := h1
    have hlt0 : 0 < s.size := h1
    by_cases hl : 97 ≤ (s[0].toNat : Int) ∧ (s[0].toNat : Int) ≤ 122
    · obtain ⟨hl1, hl2⟩ := hl
      have H0 := Lib.hid (name_go hlt0 (fun j hj => absurd hj (Nat.not_lt_zero j)) (Or.inl ⟨rfl, hl1, hl2⟩))
      go_enter Try.func89, Try.ntmps89
      go_wp2
      go_loop [3] (fun i => ∃ k : Nat, 0 < k ∧ k ≤ s.size ∧ i = .int .i64 k ∧ ∀ j, j < k → nameAt s j) (fun i => s.size - (intOf i).toNat)
      case atStart => exact ⟨1, by omega, h1, rfl, H0.out⟩
      case round =>
        obtain ⟨k, hk0, hk, rfl, hall⟩ := hrel
        have HA := Lib.hid hall
        clear hall H0
        by_cases hlt : k < s.size
        · go_wp2
          all_goals first
            | (go_ret; refine ⟨ret_bool (nameB_false (fun h => ?_)).symm, rfl⟩; have hx := name_no hlt h; clear h HA; simp at *; omega)
            | (go_round
               case rel => exact ⟨k + 1, by omega, by omega, by go_num, name_go hlt HA.out (by clear HA; simp at *; omega)⟩
               case measure => simp [intOf]; omega)
        · go_wp2
          go_ret
          exact ⟨ret_bool (nameB_true ⟨h1, h2, fun j => by
            by_cases hj : j < k
            · exact HA.out j hj
            · intro h; omega⟩).symm, rfl⟩
    · have hf := nameB_false (s := s) (fun h => hl (by have := name_no hlt0 h; omega))
      have HF := Lib.hid hf
      clear hf
      by_cases hl1 : 97 ≤ (s[0].toNat : Int)
      · have hl2 : 122 < (s[0].toNat : Int) := by omega
        clear hl
        go_enter Try.func89, Try.ntmps89
        go_wp2
        all_goals first
          | (exfalso; clear HF; simp at *; omega)
          | (go_ret; exact ⟨ret_bool HF.out.symm, rfl⟩)
      · clear hl
        go_enter Try.func89, Try.ntmps89
        go_wp2
        all_goals (go_ret; exact ⟨ret_bool HF.out.symm, rfl⟩)
  · have hf := nameB_false (s := s) (fun h => h1 ⟨h.1, h.2.1⟩)
    have HF := Lib.hid hf
    clear hf
    by_cases h2 : s.size < 1
    · clear h1
      go_enter Try.func89, Try.ntmps89
      go_wp2
      go_ret
      exact ⟨ret_bool HF.out.symm, rfl⟩
    · have h3 : 20 < s.size := by omega
      clear h1
      go_enter Try.func89, Try.ntmps89
      go_wp2
      go_ret
      exact ⟨ret_bool HF.out.symm, rfl⟩
end Go.Proofs.Ytpjmcpfmnlfmdaa
