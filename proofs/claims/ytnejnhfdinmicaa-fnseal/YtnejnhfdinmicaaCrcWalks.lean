/- What the CRC's functions answer, in the program and in the specification: crcOf. -/
import Derived.Test.YtnejnhfdinmicaaChecked
import Derived.Test.YtnejnhfdinmicaaCrcMath
namespace Go.Proofs.Ytnejnhfdinmicaa
open Go.RowKit

set_option maxRecDepth 100000 in
set_option maxHeartbeats 800000 in
theorem impl_crcbyte (x : Nat) (b : UInt8) (w : World) (hx : x < 4294967296) :
    Calls Try.prog 38 #[.int .u32 (x : Int), .int .u8 (b.toNat : Int)] w fun e w' => e = .returned (.int .u32 (crcOne x b : Nat)) ∧ w = w' := by
  have hb : (b.toNat : Int) ≤ 255 := by have := b.toNat_lt; omega
  have hb' : b.toNat < 4294967296 := by have := b.toNat_lt; omega
  have hxor := xor32 hx hb'
  obtain ⟨y, hy⟩ : ∃ y, y = x ^^^ b.toNat := ⟨_, rfl⟩
  rw [← hy] at hxor
  have hyl : y < 4294967296 := by rw [hy]; exact xor_lt32 hx hb'
  have HY := Lib.hid hy
  have HYL := Lib.hid hyl
  clear hy hb' hyl
  go_enter Try.func38, Try.ntmps38
  go_wp2
  go_loop [0, 10] (fun r i => ∃ (k z : Nat), k ≤ 8 ∧ i = .int .i64 k ∧ r = .int .u32 z ∧ z = crcSteps k y) (fun _ i => 8 - (intOf i).toNat)
  case atStart => exact ⟨0, y, Nat.zero_le _, rfl, rfl, rfl⟩
  case round =>
    obtain ⟨k, z, hk, rfl, rfl, hz⟩ := hrel
    have hzl : z < 4294967296 := by rw [hz]; exact crcSteps_lt HYL.out k
    have HZ := Lib.hid hz
    clear hz hxor
    by_cases hlt : k < 8
    · have hand := and32 hzl
      by_cases hodd : z % 2 = 1
      · rw [hodd] at hand
        go_wp2
        go_round
        case rel => exact ⟨k + 1, crcStep z, by omega, by go_num, by rw [crc_odd hzl hodd], by rw [HZ.out]; rfl⟩
        case measure => simp [intOf]; omega
      · rw [show z % 2 = 0 by omega] at hand
        go_wp2
        go_round
        case rel => exact ⟨k + 1, crcStep z, by omega, by go_num, by rw [crc_even hodd], by rw [HZ.out]; rfl⟩
        case measure => simp [intOf]; omega
    · go_wp2
      go_ret
      refine ⟨ret_int ?_, rfl⟩
      rw [HZ.out, HY.out, show k = 8 by omega]
      rfl

theorem take_snoc (s : ByteArray) (k : Nat) (h : k < s.size) : s.data.toList.take (k + 1) = s.data.toList.take k ++ [s[k]] := by
  rw [List.take_succ_eq_append_getElem (by simpa using h)]
  rfl
theorem take_all (s : ByteArray) (k : Nat) (h : ¬ k < s.size) : s.data.toList.take k = s.data.toList := by
  apply List.take_of_length_le
  have : s.data.toList.length = s.size := by rw [Array.length_toList]; rfl
  omega

set_option maxRecDepth 100000 in
set_option maxHeartbeats 800000 in
/-- The specification's register, at a CRC in its range. -/
theorem spec_l01crc (c : Nat) (s : ByteArray) (w : World) (hc : c < 4294967296) (hs : s.size ≤ 9223372036854775807) :
    Calls Try.prog 36 #[.int .i64 (c : Int), .string s] w fun e w' => e = .returned (.int .i64 (crcOf c s.data.toList : Nat)) ∧ w = w' := by
  obtain ⟨y, hy⟩ : ∃ y, y = c ^^^ 4294967295 := ⟨_, rfl⟩
  have hxor : bits .xor .u32 (c : Int) 4294967295 = (y : Int) := by rw [hy]; exact xor32 (b := 4294967295) hc (by omega)
  have hyl : y < 4294967296 := by rw [hy]; exact xor_lt32 hc (by omega)
  have HY := Lib.hid hy
  have HYL := Lib.hid hyl
  clear hy hyl
  go_enter Try.func36, Try.ntmps36
  go_wp2
  go_loop [5, 6] (fun r i => ∃ (k z : Nat), k ≤ s.size ∧ i = .int .i64 k ∧ r = .int .u32 z ∧ z = crcRun y (s.data.toList.take k)) (fun _ i => s.size - (intOf i).toNat)
  case atStart => exact ⟨0, y, Nat.zero_le _, rfl, rfl, rfl⟩
  case round =>
    obtain ⟨k, z, hk, rfl, rfl, hz⟩ := hrel
    have hzl : z < 4294967296 := by rw [hz]; exact crcRun_lt _ HYL.out
    have HZ := Lib.hid hz
    clear hz hxor
    by_cases hlt : k < s.size
    · have hbl : s[k].toNat < 4294967296 := by have := s[k].toNat_lt; omega
      have hxor := xor32 hzl hbl
      obtain ⟨y1, hy1⟩ : ∃ y1, y1 = z ^^^ s[k].toNat := ⟨_, rfl⟩
      rw [← hy1] at hxor
      have HY1 := Lib.hid hy1
      have HYL1 := Lib.hid (show y1 < 4294967296 by rw [hy1]; exact xor_lt32 hzl hbl)
      have hb8 : (s[k].toNat : Int) ≤ 255 := by have := s[k].toNat_lt; omega
      clear hy1 hbl
      go_wp2
      go_loop [5, 7] (fun r i => ∃ (j z : Nat), j ≤ 8 ∧ i = .int .i64 j ∧ r = .int .u32 z ∧ z = crcSteps j y1) (fun _ i => 8 - (intOf i).toNat)
      case atStart => exact ⟨0, y1, Nat.zero_le _, rfl, rfl, rfl⟩
      case round =>
        obtain ⟨j, z2, hj, rfl, rfl, hz2⟩ := hrel
        have hz2l : z2 < 4294967296 := by rw [hz2]; exact crcSteps_lt HYL1.out j
        have HZ2 := Lib.hid hz2
        clear hz2 hxor
        by_cases hj8 : j < 8
        · have hand := and32 hz2l
          by_cases hodd : z2 % 2 = 1
          · rw [hodd] at hand
            go_wp2
            go_round
            case rel => exact ⟨j + 1, crcStep z2, by omega, by go_num, by rw [crc_odd hz2l hodd], by rw [HZ2.out]; rfl⟩
            case measure => simp [intOf]; omega
          · rw [show z2 % 2 = 0 by omega] at hand
            go_wp2
            go_round
            case rel => exact ⟨j + 1, crcStep z2, by omega, by go_num, by rw [crc_even hodd], by rw [HZ2.out]; rfl⟩
            case measure => simp [intOf]; omega
        · go_wp2
          go_round
          case rel => exact ⟨k + 1, z2, by omega, by go_num, rfl, by rw [take_snoc s k hlt, crcRun_snoc, ← HZ.out, HZ2.out, HY1.out, show j = 8 by omega]; rfl⟩
          case measure => simp [intOf]; omega
    · have hx2 : bits .xor .u32 (z : Int) 4294967295 = ((crcOf c s.data.toList : Nat) : Int) := by
        rw [show crcOf c s.data.toList = z ^^^ 4294967295 by rw [HZ.out, take_all s k hlt, HY.out]; rfl]
        exact xor32 (b := 4294967295) hzl (by omega)
      have hcl : ((crcOf c s.data.toList : Nat) : Int) ≤ 4294967295 := by have := crcOf_lt hc s.data.toList; omega
      go_wp2
      go_ret
      exact ⟨rfl, rfl⟩

set_option maxRecDepth 100000 in
set_option maxHeartbeats 800000 in
/-- The program's CRC, at a CRC and a string in their ranges. -/
theorem impl_crcmore_in (c : Nat) (s : ByteArray) (w : World) (hc : c < 4294967296) (hs : s.size ≤ 20000) :
    Calls Try.prog 17 #[.int .i64 (c : Int), .string s] w fun e w' => e = .returned (.int .i64 (crcOf c s.data.toList : Nat)) ∧ w = w' := by
  obtain ⟨y, hy⟩ : ∃ y, y = c ^^^ 4294967295 := ⟨_, rfl⟩
  have hnot := not32 hc
  rw [← hy] at hnot
  have hyl : y < 4294967296 := by rw [hy]; exact xor_lt32 hc (by omega)
  have HY := Lib.hid hy
  have HYL := Lib.hid hyl
  have hd1 : decide (20000 < (s.size : Int)) = false := decide_eq_false (by omega)
  have hd2 : decide ((c : Int) < 0) = false := decide_eq_false (by omega)
  have hd3 : decide (4294967295 < (c : Int)) = false := decide_eq_false (by omega)
  clear hy hyl
  go_enter Try.func17, Try.ntmps17
  go_wp2
  go_loop [5, 6] (fun r i => ∃ (k z : Nat), k ≤ s.size ∧ i = .int .i64 k ∧ r = .int .u32 z ∧ z = crcRun y (s.data.toList.take k)) (fun _ i => s.size - (intOf i).toNat)
  case atStart => exact ⟨0, y, Nat.zero_le _, rfl, rfl, rfl⟩
  case round =>
    obtain ⟨k, z, hk, rfl, rfl, hz⟩ := hrel
    have hzl : z < 4294967296 := by rw [hz]; exact crcRun_lt _ HYL.out
    have HZ := Lib.hid hz
    clear hz hnot
    by_cases hlt : k < s.size
    · go_wp2_with (first
        | (go_at_call 38; refine (impl_crcbyte _ _ _ hzl).mono ?_; rintro e w' ⟨rfl, rfl⟩))
      go_round
      case rel => exact ⟨k + 1, _, by omega, by go_num, rfl, by rw [take_snoc s k hlt, crcRun_snoc, ← HZ.out]⟩
      case measure => simp [intOf]; omega
    · have hx2 : bits .xor .u32 IntKind.u32.max (z : Int) = ((crcOf c s.data.toList : Nat) : Int) := by
        rw [not32 hzl, show crcOf c s.data.toList = z ^^^ 4294967295 by rw [HZ.out, take_all s k hlt, HY.out]; rfl]
      have hcl : ((crcOf c s.data.toList : Nat) : Int) ≤ 4294967295 := by have := crcOf_lt hc s.data.toList; omega
      go_wp2
      go_ret
      exact ⟨rfl, rfl⟩

/-- What CrcMore answers. -/
def crcMoreZ (c : Int) (s : ByteArray) : Int := if 20000 < s.size ∨ c < 0 ∨ 4294967295 < c then 0 else (crcOf c.toNat s.data.toList : Nat)
theorem crcMoreZ_out {c : Int} {s : ByteArray} (h : 20000 < s.size ∨ c < 0 ∨ 4294967295 < c) : crcMoreZ c s = 0 := by unfold crcMoreZ; rw [if_pos h]
theorem crcMoreZ_in {c : Nat} {s : ByteArray} (hc : c < 4294967296) (h : s.size ≤ 20000) : crcMoreZ c s = (crcOf c s.data.toList : Nat) := by
  unfold crcMoreZ; rw [if_neg (by omega)]; simp

set_option maxRecDepth 100000 in
set_option maxHeartbeats 800000 in
theorem impl_crcmore (c : Int) (s : ByteArray) (w : World) (hs : s.size ≤ 9223372036854775807) :
    Calls Try.prog 17 #[.int .i64 c, .string s] w fun e w' => e = .returned (.int .i64 (crcMoreZ c s)) ∧ w = w' := by
  by_cases hin : s.size ≤ 20000 ∧ 0 ≤ c ∧ c ≤ 4294967295
  · obtain ⟨h1, h2, h3⟩ := hin
    obtain ⟨n, rfl⟩ : ∃ n : Nat, c = n := ⟨c.toNat, by omega⟩
    rw [crcMoreZ_in (by omega) h1]
    exact impl_crcmore_in n s w (by omega) h1
  · have HO := Lib.hid (crcMoreZ_out (c := c) (s := s) (by omega))
    by_cases h1 : 20000 < s.size
    · clear hin
      go_enter Try.func17, Try.ntmps17
      go_wp2
      all_goals (go_ret; exact ⟨ret_int HO.out.symm, rfl⟩)
    · by_cases h2 : c < 0
      · clear hin
        go_enter Try.func17, Try.ntmps17
        go_wp2
        all_goals (go_ret; exact ⟨ret_int HO.out.symm, rfl⟩)
      · have h3 : 4294967295 < c := by omega
        clear hin
        go_enter Try.func17, Try.ntmps17
        go_wp2
        all_goals (go_ret; exact ⟨ret_int HO.out.symm, rfl⟩)

set_option maxRecDepth 100000 in
set_option maxHeartbeats 800000 in
theorem spec_crcmore (c : Int) (s : ByteArray) (w : World) (hs : s.size ≤ 9223372036854775807) :
    Calls Try.prog 18 #[.int .i64 c, .string s] w fun e w' => e = .returned (.int .i64 (crcMoreZ c s)) ∧ w = w' := by
  by_cases hin : s.size ≤ 20000 ∧ 0 ≤ c ∧ c ≤ 4294967295
  · obtain ⟨h1, h2, h3⟩ := hin
    obtain ⟨n, rfl⟩ : ∃ n : Nat, c = n := ⟨c.toNat, by omega⟩
    have HI := Lib.hid (crcMoreZ_in (c := n) (s := s) (by omega) h1)
    go_enter Try.func18, Try.ntmps18
    go_wp2_with (first
      | (go_at_call 36; refine (spec_l01crc n s _ (by omega) hs).mono ?_; rintro e w' ⟨rfl, rfl⟩))
    go_ret
    exact ⟨ret_int HI.out.symm, rfl⟩
  · have HO := Lib.hid (crcMoreZ_out (c := c) (s := s) (by omega))
    by_cases h1 : 20000 < s.size
    · clear hin
      go_enter Try.func18, Try.ntmps18
      go_wp2
      all_goals (go_ret; exact ⟨ret_int HO.out.symm, rfl⟩)
    · by_cases h2 : c < 0
      · clear hin
        go_enter Try.func18, Try.ntmps18
        go_wp2
        all_goals (go_ret; exact ⟨ret_int HO.out.symm, rfl⟩)
      · have h3 : 4294967295 < c := by omega
        clear hin
        go_enter Try.func18, Try.ntmps18
        go_wp2
        all_goals (go_ret; exact ⟨ret_int HO.out.symm, rfl⟩)

theorem impl_crc (s : ByteArray) (w : World) (hs : s.size ≤ 9223372036854775807) :
    Calls Try.prog 19 #[.string s] w fun e w' => e = .returned (.int .i64 (crcMoreZ 0 s)) ∧ w = w' := by
  go_enter Try.func19, Try.ntmps19
  go_wp2_with (first
    | (go_at_call 17; refine (impl_crcmore 0 s _ hs).mono ?_; rintro e w' ⟨rfl, rfl⟩))
  go_ret
  exact ⟨rfl, rfl⟩

theorem spec_crc (s : ByteArray) (w : World) (hs : s.size ≤ 9223372036854775807) :
    Calls Try.prog 26 #[.string s] w fun e w' => e = .returned (.int .i64 (crcMoreZ 0 s)) ∧ w = w' := by
  by_cases h1 : 20000 < s.size
  · have HO := Lib.hid (crcMoreZ_out (c := 0) (s := s) (.inl h1))
    go_enter Try.func26, Try.ntmps26
    go_wp2
    go_ret
    exact ⟨ret_int HO.out.symm, rfl⟩
  · have HI := Lib.hid (crcMoreZ_in (c := 0) (s := s) (by omega) (by omega))
    go_enter Try.func26, Try.ntmps26
    go_wp2_with (first
      | (go_at_call 36; refine (spec_l01crc 0 s _ (by omega) hs).mono ?_; rintro e w' ⟨rfl, rfl⟩))
    go_ret
    exact ⟨ret_int HI.out.symm, rfl⟩
end Go.Proofs.Ytnejnhfdinmicaa
