/- What the tests of an address's parts answer, the program's and the specification's. -/
import Derived.Test.YtpjmcpfmnlfmdaaJidBytes
import Derived.Lib.IndexMore
namespace Go.Proofs.Ytpjmcpfmnlfmdaa
set_option linter.unusedSimpArgs false
set_option linter.unusedVariables false
open Go.RowKit

def allC (ok : Nat → Bool) (s : ByteArray) : Bool := s.data.toList.all (fun c => ok c.toNat)
def partB (ok : Nat → Bool) (s : ByteArray) : Bool := decide (s.size ≤ 30) && allC ok s
theorem allC_iff (ok : Nat → Bool) (s : ByteArray) : allC ok s = true ↔ ∀ j (h : j < s.size), ok s[j].toNat = true := by
  unfold allC
  rw [List.all_eq_true]
  constructor
  · intro h j hj
    exact h s[j] (by rw [show s[j] = s.data[j] from rfl]; simp)
  · intro h x hx
    obtain ⟨j, hj, rfl⟩ := List.getElem_of_mem hx
    have hj' : j < s.size := by rw [Array.length_toList] at hj; exact hj
    rw [Array.getElem_toList]
    exact h j hj'
def Upto (ok : Nat → Bool) (s : ByteArray) (k : Nat) : Prop := ∀ j (h : j < s.size), j < k → ok s[j].toNat = true
theorem upto_zero (ok : Nat → Bool) (s : ByteArray) : Upto ok s 0 := fun _ _ h => absurd h (Nat.not_lt_zero _)
theorem upto_succ {ok : Nat → Bool} {s : ByteArray} {k : Nat} (h : Upto ok s k) (hk : k < s.size) (h1 : ok s[k].toNat = true) : Upto ok s (k + 1) := by
  intro j hj hlt
  by_cases e : j = k
  · subst e; exact h1
  · exact h j hj (by omega)
theorem upto_all {ok : Nat → Bool} {s : ByteArray} {k : Nat} (h : Upto ok s k) (hk : ¬ k < s.size) : allC ok s = true := (allC_iff ok s).2 fun j hj => h j hj (by omega)
theorem all_no {ok : Nat → Bool} {s : ByteArray} {k : Nat} (hk : k < s.size) (h1 : ok s[k].toNat = false) : allC ok s = false := by
  rw [Bool.eq_false_iff]
  intro h
  have := (allC_iff ok s).1 h k hk
  rw [h1] at this
  cases this
theorem byte_le (x : UInt8) : x.toNat ≤ 255 := by have := x.toNat_lt; omega

set_option maxHeartbeats 1000000 in
theorem impl_part_loc (s : ByteArray) (w : World) (hs : s.size ≤ maxLen) : Calls Try.prog 99 #[.string s, .func (.func 100) #[] #[]] w (SaysB (partB locC s) w) := by
  unfold maxLen at hs
  unfold partB
  by_cases h30 : 30 < s.size
  · rw [show decide (s.size ≤ 30) = false by simp; omega]
    go_enter Try.func99, Try.ntmps99
    go_wp2
    go_ret
    exact ⟨rfl, rfl⟩
  · rw [show decide (s.size ≤ 30) = true by simp; omega, Bool.true_and]
    go_enter Try.func99, Try.ntmps99
    go_wp2
    go_loop [5] (fun i => ∃ k : Nat, k ≤ s.size ∧ i = .int .i64 k ∧ Upto locC s k) (fun i => s.size - (intOf i).toNat)
    case atStart => exact ⟨0, Nat.zero_le _, rfl, upto_zero _ _⟩
    case round =>
      obtain ⟨k, hk, rfl, hall⟩ := hrel
      have HA := Lib.hid hall
      clear hall
      by_cases hlt : k < s.size
      · have hc := fun w => impl_locb s[k].toNat w
        obtain ⟨b, hb⟩ : ∃ b, locC s[k].toNat = b := ⟨_, rfl⟩
        rw [hb] at hc
        have HB := Lib.hid hb
        clear hb
        cases b
        · go_wp2_with (first | (go_at_call 100; refine (hc _).mono ?_; rintro e w' ⟨rfl, rfl⟩))
          go_ret
          exact ⟨ret_bool (all_no hlt HB.out).symm, rfl⟩
        · go_wp2_with (first | (go_at_call 100; refine (hc _).mono ?_; rintro e w' ⟨rfl, rfl⟩))
          go_round
          case rel => exact ⟨k + 1, by omega, by go_num, upto_succ HA.out hlt HB.out⟩
          case measure => simp [intOf]; omega
      · go_wp2
        go_ret
        exact ⟨ret_bool (upto_all HA.out hlt).symm, rfl⟩
set_option maxHeartbeats 1000000 in
theorem impl_part_dom (s : ByteArray) (w : World) (hs : s.size ≤ maxLen) : Calls Try.prog 99 #[.string s, .func (.func 110) #[] #[]] w (SaysB (partB domC s) w) := by
  unfold maxLen at hs
  unfold partB
  by_cases h30 : 30 < s.size
  · rw [show decide (s.size ≤ 30) = false by simp; omega]
    go_enter Try.func99, Try.ntmps99
    go_wp2
    go_ret
    exact ⟨rfl, rfl⟩
  · rw [show decide (s.size ≤ 30) = true by simp; omega, Bool.true_and]
    go_enter Try.func99, Try.ntmps99
    go_wp2
    go_loop [5] (fun i => ∃ k : Nat, k ≤ s.size ∧ i = .int .i64 k ∧ Upto domC s k) (fun i => s.size - (intOf i).toNat)
    case atStart => exact ⟨0, Nat.zero_le _, rfl, upto_zero _ _⟩
    case round =>
      obtain ⟨k, hk, rfl, hall⟩ := hrel
      have HA := Lib.hid hall
      clear hall
      by_cases hlt : k < s.size
      · have hc := fun w => impl_domb s[k].toNat w
        obtain ⟨b, hb⟩ : ∃ b, domC s[k].toNat = b := ⟨_, rfl⟩
        rw [hb] at hc
        have HB := Lib.hid hb
        clear hb
        cases b
        · go_wp2_with (first | (go_at_call 110; refine (hc _).mono ?_; rintro e w' ⟨rfl, rfl⟩))
          go_ret
          exact ⟨ret_bool (all_no hlt HB.out).symm, rfl⟩
        · go_wp2_with (first | (go_at_call 110; refine (hc _).mono ?_; rintro e w' ⟨rfl, rfl⟩))
          go_round
          case rel => exact ⟨k + 1, by omega, by go_num, upto_succ HA.out hlt HB.out⟩
          case measure => simp [intOf]; omega
      · go_wp2
        go_ret
        exact ⟨ret_bool (upto_all HA.out hlt).symm, rfl⟩
set_option maxHeartbeats 1000000 in
theorem impl_part_res (s : ByteArray) (w : World) (hs : s.size ≤ maxLen) : Calls Try.prog 99 #[.string s, .func (.func 102) #[] #[]] w (SaysB (partB resC s) w) := by
  unfold maxLen at hs
  unfold partB
  by_cases h30 : 30 < s.size
  · rw [show decide (s.size ≤ 30) = false by simp; omega]
    go_enter Try.func99, Try.ntmps99
    go_wp2
    go_ret
    exact ⟨rfl, rfl⟩
  · rw [show decide (s.size ≤ 30) = true by simp; omega, Bool.true_and]
    go_enter Try.func99, Try.ntmps99
    go_wp2
    go_loop [5] (fun i => ∃ k : Nat, k ≤ s.size ∧ i = .int .i64 k ∧ Upto resC s k) (fun i => s.size - (intOf i).toNat)
    case atStart => exact ⟨0, Nat.zero_le _, rfl, upto_zero _ _⟩
    case round =>
      obtain ⟨k, hk, rfl, hall⟩ := hrel
      have HA := Lib.hid hall
      clear hall
      by_cases hlt : k < s.size
      · have hc := fun w => impl_resb s[k].toNat (byte_le _) w
        obtain ⟨b, hb⟩ : ∃ b, resC s[k].toNat = b := ⟨_, rfl⟩
        rw [hb] at hc
        have HB := Lib.hid hb
        clear hb
        cases b
        · go_wp2_with (first | (go_at_call 102; refine (hc _).mono ?_; rintro e w' ⟨rfl, rfl⟩))
          go_ret
          exact ⟨ret_bool (all_no hlt HB.out).symm, rfl⟩
        · go_wp2_with (first | (go_at_call 102; refine (hc _).mono ?_; rintro e w' ⟨rfl, rfl⟩))
          go_round
          case rel => exact ⟨k + 1, by omega, by go_num, upto_succ HA.out hlt HB.out⟩
          case measure => simp [intOf]; omega
      · go_wp2
        go_ret
        exact ⟨ret_bool (upto_all HA.out hlt).symm, rfl⟩

/-! the domain -/
theorem occ_index : ∀ (i : Nat) (l sub : List UInt8), i ≤ l.length → Lib.occAt l sub i = true → 0 ≤ Lib.index l sub
  | 0, l, sub, _, h => by
    cases l with
    | nil => unfold Lib.occAt at h; unfold Lib.index; cases sub with
      | nil => simp
      | cons c t => simp at h
    | cons b l => unfold Lib.occAt at h; unfold Lib.index; simp only [List.drop_zero] at h; rw [if_pos h]; exact Int.le_refl _
  | i + 1, [], sub, h, _ => by simp at h
  | i + 1, b :: l, sub, hi, h => by
    have ih := occ_index i l sub (by simpa using hi) (by unfold Lib.occAt at h ⊢; simpa using h)
    unfold Lib.index
    split
    · exact Int.le_refl _
    · rw [if_neg (by simp; omega)]
      omega
theorem dots_at (s : ByteArray) (k : Nat) (h : k + 1 < s.size) : Lib.occAt s.data.toList [46, 46] k = true ↔ (s[k].toNat = 46 ∧ s[k + 1].toNat = 46) := by
  have hl : s.data.toList.length = s.size := Array.length_toList
  unfold Lib.occAt
  rw [List.drop_eq_getElem_cons (by omega), List.drop_eq_getElem_cons (by omega)]
  rw [show s.data.toList[k]'(by omega) = s[k] by rw [Array.getElem_toList]; rfl, show s.data.toList[k + 1]'(by omega) = s[k + 1] by rw [Array.getElem_toList]; rfl]
  simp only [List.isPrefixOf, Bool.and_eq_true, beq_iff_eq, and_true]
  constructor
  · rintro ⟨h1, h2⟩
    rw [← h1, ← h2]
    exact ⟨rfl, rfl⟩
  · rintro ⟨h1, h2⟩
    exact ⟨(UInt8.toNat_inj.1 h1).symm, (UInt8.toNat_inj.1 h2).symm⟩
def NoDots (s : ByteArray) (k : Nat) : Prop := ∀ j (h : j + 1 < s.size), j + 1 < k → ¬ (s[j].toNat = 46 ∧ s[j + 1].toNat = 46)
theorem dots_iff (s : ByteArray) : Lib.contains s.data.toList [46, 46] = false ↔ NoDots s s.size := by
  have hl : s.data.toList.length = s.size := Array.length_toList
  unfold Lib.contains
  rw [decide_eq_false_iff_not]
  constructor
  · intro h j hj _ hd
    exact h (occ_index j _ _ (by omega) ((dots_at s j hj).2 hd))
  · intro h h0
    have hn : Lib.index s.data.toList [46, 46] = -1 := Lib.index_none fun j hj => by
      rw [Bool.eq_false_iff]
      intro ho
      rcases Lib.occAt_room ho with hr | hr
      · have hj2 : j + 1 < s.size := by
          have : j + 2 ≤ s.size := by simpa using hr
          omega
        exact h j hj2 hj2 ((dots_at s j hj2).1 ho)
      · cases hr
    omega
def domP (s : ByteArray) : Prop := 0 < s.size ∧ partB domC s = true ∧ (∀ h : 0 < s.size, sepC s[0].toNat = false ∧ sepC s[s.size - 1].toNat = false) ∧ Lib.contains s.data.toList [46, 46] = false
open Classical in
noncomputable def domB (s : ByteArray) : Bool := decide (domP s)
theorem domB_true {s : ByteArray} (h : domP s) : domB s = true := by unfold domB; simpa using h
theorem domB_false {s : ByteArray} (h : ¬ domP s) : domB s = false := by unfold domB; simpa using h
theorem domB_iff {s : ByteArray} : domB s = true ↔ domP s := by unfold domB; simp
theorem size_zero {s : ByteArray} (h : s.size = 0) : s = ByteArray.empty := by
  obtain ⟨⟨l⟩⟩ := s
  have : l.length = 0 := h
  rw [List.eq_nil_of_length_eq_zero this]
  rfl

def MaxL (w : World) : Prop := ∃ m, w.cell? ⟨0, 0, none⟩ = some (.int .i64 m)
theorem MaxL.pos {w : World} (h : MaxL w) : 0 < w.heap.size := by
  obtain ⟨m, hm⟩ := h
  rcases Nat.lt_or_ge 0 w.heap.size with h1 | h1
  · exact h1
  · simp [World.cell?, Array.getElem?_eq_none h1] at hm
theorem MaxL.below {w w' : World} {B : Nat} (h : MaxL w) (hb : Below B w w') (hB : 0 < B) : MaxL w' := by
  obtain ⟨m, hm⟩ := h
  exact ⟨m, (hb.cell (p := ⟨0, 0, none⟩) hB).trans hm⟩
end Go.Proofs.Ytpjmcpfmnlfmdaa
