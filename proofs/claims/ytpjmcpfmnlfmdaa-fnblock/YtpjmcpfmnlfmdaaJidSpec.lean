/- What the specification's tests of an address answer. -/
import Derived.Test.YtpjmcpfmnlfmdaaJidRight
namespace Go.Proofs.Ytpjmcpfmnlfmdaa
set_option linter.unusedSimpArgs false
set_option linter.unusedVariables false
open Go.RowKit

def plainB (c : Nat) (others : ByteArray) : Bool := letC c || digC c || !allC (fun x => decide (x ≠ c)) others
theorem plain_yes {c : Nat} {o : ByteArray} (h : 97 ≤ (c : Int) ∧ (c : Int) ≤ 122 ∨ 48 ≤ (c : Int) ∧ (c : Int) ≤ 57) : plainB c o = true := by
  have : (letC c || digC c) = true := by
    unfold letC digC
    simp
    omega
  unfold plainB
  rw [this]
  rfl
theorem plain_no {c : Nat} {o : ByteArray} (h : (c : Int) < 48 ∨ 57 < (c : Int) ∧ (c : Int) < 97 ∨ 122 < (c : Int)) : plainB c o = !allC (fun x => decide (x ≠ c)) o := by
  have : (letC c || digC c) = false := by
    unfold letC digC
    rw [Bool.eq_false_iff]
    intro h
    simp at h
    omega
  unfold plainB
  rw [this]
  rfl
set_option maxHeartbeats 2000000 in
theorem spec_plain (c : Nat) (o : ByteArray) (w : World) (ho : o.size ≤ 1000) : Calls Try.prog 120 #[.int .u8 (c : Int), .string o] w (SaysB (plainB c o) w) := by
  obtain ⟨v, hv⟩ : ∃ v, plainB c o = v := ⟨_, rfl⟩
  rw [hv]
  have HV := Lib.hid hv
  clear hv
  have h5 : 97 ≤ (c : Int) ∧ (c : Int) ≤ 122 ∨ 48 ≤ (c : Int) ∧ (c : Int) ≤ 57 ∨ (c : Int) < 48 ∨ 57 < (c : Int) ∧ (c : Int) < 97 ∨ 122 < (c : Int) := by omega
  rcases h5 with h | h | h
  · obtain rfl : v = true := HV.out.symm.trans (plain_yes (.inl h))
    obtain ⟨h1, h2⟩ := h
    go_enter Try.func120, Try.ntmps120
    go_wp2
    go_ret
    exact ⟨rfl, rfl⟩
  · obtain rfl : v = true := HV.out.symm.trans (plain_yes (.inr h))
    obtain ⟨h1, h2⟩ := h
    go_enter Try.func120, Try.ntmps120
    go_wp2
    go_ret
    exact ⟨rfl, rfl⟩
  · have HV := Lib.hid (HV.out.symm.trans (plain_no h))
    rcases h with h | ⟨h, h'⟩ | h <;>
      (go_enter Try.func120, Try.ntmps120
       go_wp2
       go_loop [5] (fun i => ∃ k : Nat, k ≤ o.size ∧ i = .int .i64 k ∧ Upto (fun x => decide (x ≠ c)) o k) (fun i => o.size - (intOf i).toNat)
       case atStart => exact ⟨0, Nat.zero_le _, rfl, upto_zero _ _⟩
       case round =>
         obtain ⟨k, hk, rfl, hall⟩ := hrel
         have HA := Lib.hid hall
         clear hall
         by_cases hlt : k < o.size
         · by_cases heq : (o[k].toNat : Int) = (c : Int)
           · have HE : Hid (decide (o[k].toNat ≠ c) = false) := Lib.hid (by simp; omega)
             go_wp2
             go_ret
             refine ⟨ret_bool ?_, rfl⟩
             rw [HV.out, all_no hlt HE.out]
             rfl
           · have HE : Hid (decide (o[k].toNat ≠ c) = true) := Lib.hid (by simp; omega)
             go_wp2
             go_round
             case rel => exact ⟨k + 1, by omega, by go_num, upto_succ HA.out hlt HE.out⟩
             case measure => simp [intOf]; omega
         · go_wp2
           go_ret
           refine ⟨ret_bool ?_, rfl⟩
           rw [HV.out, upto_all HA.out hlt]
           rfl)
theorem plain_loc (c : Nat) : plainB c ⟨#[46, 95, 45]⟩ = locC c := by
  unfold plainB locC domC sepC allC
  cases letC c <;> cases digC c <;> (rw [Bool.eq_iff_iff]; simp; try omega)
theorem plain_dom (c : Nat) : plainB c ⟨#[46, 45]⟩ = domC c := by
  unfold plainB domC sepC allC
  cases letC c <;> cases digC c <;> (rw [Bool.eq_iff_iff]; simp; try omega)
set_option maxHeartbeats 1000000 in
theorem spec_local (s : ByteArray) (w : World) (hs : s.size ≤ maxLen) : Calls Try.prog 114 #[.string s] w (SaysB (partB locC s) w) := by
  unfold maxLen at hs
  go_enter Try.func114, Try.ntmps114
  go_wp2
  go_loop [3] (fun i => ∃ k : Nat, k ≤ s.size ∧ i = .int .i64 k ∧ Upto locC s k) (fun i => s.size - (intOf i).toNat)
  case atStart => exact ⟨0, Nat.zero_le _, rfl, upto_zero _ _⟩
  case round =>
    obtain ⟨k, hk, rfl, hall⟩ := hrel
    have HA := Lib.hid hall
    clear hall
    by_cases hlt : k < s.size
    · have hc := fun w => spec_plain s[k].toNat ⟨#[46, 95, 45]⟩ w (by decide)
      rw [plain_loc] at hc
      obtain ⟨b, hb⟩ : ∃ b, locC s[k].toNat = b := ⟨_, rfl⟩
      rw [hb] at hc
      have HB := Lib.hid hb
      clear hb
      cases b
      · go_wp2_with (first | (go_at_call 120; refine (hc _).mono ?_; rintro e w' ⟨rfl, rfl⟩))
        go_ret
        exact ⟨ret_bool (by unfold partB; rw [all_no hlt HB.out, Bool.and_false]), rfl⟩
      · go_wp2_with (first | (go_at_call 120; refine (hc _).mono ?_; rintro e w' ⟨rfl, rfl⟩))
        go_round
        case rel => exact ⟨k + 1, by omega, by go_num, upto_succ HA.out hlt HB.out⟩
        case measure => simp [intOf]; omega
    · go_wp2
      go_ret
      exact ⟨ret_bool (by unfold partB; rw [upto_all HA.out hlt, Bool.and_true]; simp; omega), rfl⟩
set_option maxHeartbeats 4000000 in
theorem spec_resource (s : ByteArray) (w : World) (hs : s.size ≤ maxLen) : Calls Try.prog 116 #[.string s] w (SaysB (partB resC s) w) := by
  unfold maxLen at hs
  go_enter Try.func116, Try.ntmps116
  go_wp2
  go_loop [3] (fun i => ∃ k : Nat, k ≤ s.size ∧ i = .int .i64 k ∧ Upto resC s k) (fun i => s.size - (intOf i).toNat)
  case atStart => exact ⟨0, Nat.zero_le _, rfl, upto_zero _ _⟩
  case round =>
    obtain ⟨k, hk, rfl, hall⟩ := hrel
    have HA := Lib.hid hall
    clear hall
    by_cases hlt : k < s.size
    · go_wp2
      all_goals first
        | (go_ret
           refine ⟨ret_bool ?_, rfl⟩
           unfold partB
           rw [all_no hlt (by clear HA; (try simp only [beq_iff_eq, beq_eq_false_iff_ne] at *); unfold resC; simp; omega), Bool.and_false])
        | (go_round
           case rel => exact ⟨k + 1, by omega, by go_num, upto_succ HA.out hlt (by clear HA; (try simp only [beq_iff_eq, beq_eq_false_iff_ne] at *); unfold resC; simp; omega)⟩
           case measure => simp [intOf]; omega)
    · go_wp2
      go_ret
      exact ⟨ret_bool (by unfold partB; rw [upto_all HA.out hlt, Bool.and_true]; simp; omega), rfl⟩
theorem noDots_zero (s : ByteArray) : NoDots s 0 := fun _ _ h => absurd h (Nat.not_lt_zero _)
theorem noDots_succ {s : ByteArray} {k : Nat} (h : NoDots s k) (h1 : ∀ j (hj : j + 1 < s.size), j + 1 = k → ¬ (s[j].toNat = 46 ∧ s[j + 1].toNat = 46)) : NoDots s (k + 1) := by
  intro j hj hlt
  by_cases e : j + 1 = k
  · exact h1 j hj e
  · exact h j hj (by omega)
set_option maxHeartbeats 4000000 in
theorem spec_domain (s : ByteArray) (w : World) (hs : s.size ≤ maxLen) : Calls Try.prog 115 #[.string s] w (SaysB (domB s) w) := by
  unfold maxLen at hs
  by_cases h0 : s.size = 0
  · have HF : Hid (domB s = false) := Lib.hid (domB_false fun h => by have := h.1; omega)
    go_enter Try.func115, Try.ntmps115
    go_wp2
    go_ret
    exact ⟨ret_bool HF.out.symm, rfl⟩
  · by_cases h30 : 30 < s.size
    · have HF : Hid (domB s = false) := Lib.hid (domB_false fun h => by have := h.2.1; unfold partB at this; simp at this; omega)
      go_enter Try.func115, Try.ntmps115
      go_wp2
      go_ret
      exact ⟨ret_bool HF.out.symm, rfl⟩
    · have h1 : 0 < s.size := by omega
      have hle : s.size ≤ 30 := by omega
      clear h0 h30
      obtain ⟨n, hn⟩ : ∃ n, n = s.size - 1 := ⟨_, rfl⟩
      have hz : (s.size : Int) - 1 = (n : Int) := by omega
      have hl : n < s.size := by omega
      have HN := Lib.hid hn
      clear hn
      obtain ⟨b2, hb2⟩ : ∃ b, (sepC s[0].toNat || sepC s[n].toNat) = b := ⟨_, rfl⟩
      have HB2 := Lib.hid hb2
      clear hb2
      have hsep : b2 = true → domB s = false := fun h => domB_false fun hd => by
        have := hd.2.2.1 h1
        have hn := HN.out
        subst hn
        have e := HB2.out
        rw [this.1, this.2, h] at e
        cases e
      have HS := Lib.hid hsep
      clear hsep
      go_enter Try.func115, Try.ntmps115
      go_wp2
      all_goals first
        | (go_ret
           refine ⟨ret_bool (HS.out ?_).symm, rfl⟩
           have e := HB2.out
           clear HS HB2 HN
           (try simp only [beq_iff_eq, beq_eq_false_iff_ne] at *)
           rw [← e]
           unfold sepC
           simp
           omega)
        | skip
      rename_i e1 e2 e3 e4 _ _
      have HSF : Hid (sepC s[0].toNat = false ∧ sepC s[n].toNat = false) := Lib.hid (by
        clear HS HB2 HN
        (try simp only [beq_iff_eq, beq_eq_false_iff_ne] at *)
        unfold sepC
        simp
        omega)
      clear e1 e2 e3 e4 HS HB2
      go_loop [4] (fun i => ∃ k : Nat, k ≤ s.size ∧ i = .int .i64 k ∧ Upto domC s k ∧ NoDots s k) (fun i => s.size - (intOf i).toNat)
      case atStart => exact ⟨0, Nat.zero_le _, rfl, upto_zero _ _, noDots_zero _⟩
      case round =>
        obtain ⟨k, hk, rfl, hall, hdots⟩ := hrel
        have HA := Lib.hid hall
        have HD := Lib.hid hdots
        clear hall hdots
        by_cases hlt : k < s.size
        · have hc := fun w => spec_plain s[k].toNat ⟨#[46, 45]⟩ w (by decide)
          rw [plain_dom] at hc
          obtain ⟨b, hb⟩ : ∃ b, domC s[k].toNat = b := ⟨_, rfl⟩
          rw [hb] at hc
          have HB := Lib.hid hb
          clear hb
          cases b
          · go_wp2_with (first | (go_at_call 120; refine (hc _).mono ?_; rintro e w' ⟨rfl, rfl⟩))
            go_ret
            exact ⟨ret_bool (domB_false fun h => by have := h.2.1; unfold partB at this; rw [all_no hlt HB.out, Bool.and_false] at this; cases this).symm, rfl⟩
          · by_cases hk0 : k = 0
            · subst hk0
              go_wp2_with (first | (go_at_call 120; refine (hc _).mono ?_; rintro e w' ⟨rfl, rfl⟩))
              go_round
              case rel => exact ⟨0 + 1, by omega, by go_num, upto_succ HA.out hlt HB.out, noDots_succ HD.out (fun j hj e => by omega)⟩
              case measure => simp [intOf]; omega
            · obtain ⟨q, rfl⟩ : ∃ q, k = q + 1 := ⟨k - 1, by omega⟩
              have hq : q < s.size := by omega
              have hqz : ((q + 1 : Nat) : Int) - 1 = (q : Int) := by omega
              go_wp2_with (first | (go_at_call 120; refine (hc _).mono ?_; rintro e w' ⟨rfl, rfl⟩))
              · rename_i e1 e2
                have hd : s[q].toNat = 46 ∧ s[q + 1].toNat = 46 := by rw [beq_iff_eq] at e2; omega
                go_ret
                exact ⟨ret_bool (domB_false fun h => (dots_iff s).1 h.2.2.2 q hlt hlt hd).symm, rfl⟩
              · rename_i e1 e2
                have hd : ¬ (s[q].toNat = 46) := by rw [beq_eq_false_iff_ne] at e2; omega
                go_round
                case rel => exact ⟨q + 1 + 1, by omega, by go_num, upto_succ HA.out hlt HB.out, noDots_succ HD.out (fun j hj e => by
                  obtain rfl : j = q := by omega
                  exact fun h => hd h.1)⟩
                case measure => simp [intOf]; omega
              · rename_i e1
                have hd : ¬ (s[q + 1].toNat = 46) := by omega
                go_round
                case rel => exact ⟨q + 1 + 1, by omega, by go_num, upto_succ HA.out hlt HB.out, noDots_succ HD.out (fun j hj e => by
                  obtain rfl : j = q := by omega
                  exact fun h => hd h.2)⟩
                case measure => simp [intOf]; omega
        · go_wp2
          go_ret
          refine ⟨ret_bool (domB_true ⟨h1, ?_, fun _ => ?_, (dots_iff s).2 ?_⟩).symm, rfl⟩
          · unfold partB
            rw [upto_all HA.out hlt]
            simp
            omega
          · have hn := HN.out
            subst hn
            exact HSF.out
          · have := HD.out
            rw [show k = s.size by omega] at this
            exact this
set_option maxHeartbeats 1000000 in
theorem spec_right (l d r : ByteArray) (w : World) (hl : l.size ≤ maxLen) (hd : d.size ≤ maxLen) (hr : r.size ≤ maxLen) :
    Calls Try.prog 103 #[.agg #[.string l, .string d, .string r]] w fun e w' => e = .returned (.bool (jidB l d r)) ∧ Below w.heap.size w w' := by
  obtain ⟨b1, h1⟩ : ∃ b, partB locC l = b := ⟨_, rfl⟩
  obtain ⟨b2, h2⟩ : ∃ b, domB d = b := ⟨_, rfl⟩
  obtain ⟨b3, h3⟩ : ∃ b, partB resC r = b := ⟨_, rfl⟩
  have i1 := fun w => spec_local l w hl
  have i2 := fun w => spec_domain d w hd
  have i3 := fun w => spec_resource r w hr
  rw [h1] at i1
  rw [h2] at i2
  rw [h3] at i3
  unfold jidB jidB'
  rw [h1, h2, h3]
  clear h1 h2 h3
  cases b1 <;> cases b2 <;>
    (go_enter Try.func103, Try.ntmps103
     go_wp2_with (first
       | (go_at_call 114; go_fit (i1 _); rintro e w' ⟨rfl, rfl⟩)
       | (go_at_call 115; go_fit (i2 _); rintro e w' ⟨rfl, rfl⟩)
       | (go_at_call 116; go_fit (i3 _); rintro e w' ⟨rfl, rfl⟩))
     go_ret
     exact ⟨ret_bool (by simp), (Below.refl _ _).alloc (Nat.le_refl _) _⟩)
end Go.Proofs.Ytpjmcpfmnlfmdaa
