/- What laws.markText answers. -/
import Derived.Test.YtpjmcpfmnlfmdaaStTextS
namespace Go.Proofs.Ytpjmcpfmnlfmdaa
set_option linter.unusedSimpArgs false
set_option linter.unusedVariables false
open Go.RowKit

/-- The mark of a number. -/
def mkT (k : Nat) : ByteArray := strOf (109 :: dgL k)
theorem dg_len2 (m : Nat) (h : m ≤ 1000000000000) : (dgL m).length ≤ 13 := by
  unfold dgL
  split
  · simp
  · exact dec_len m 12 (by omega)
set_option maxRecDepth 100000 in
set_option maxHeartbeats 1000000 in
theorem mark_text (N : Nat) (w : World) (h0 : 0 < N) (h1 : N ≤ 1000000000000) :
    Calls Try.prog 69 #[.int .i64 (N : Int)] w fun e w' => e = .returned (.string (mkT N)) ∧ Below w.heap.size w w' := by
  have hz : ¬ ((N : Int) ≤ 0) := by omega
  unfold mkT
  go_enter Try.func69, Try.ntmps69
  go_wp2
  clear hz
  go_loopw [0, 3] (fun q s W => ∃ (m : Nat) (l : List UInt8), m ≤ N ∧ q = .int .i64 m ∧ s = .string (strOf l) ∧ dgL N = dgL m ++ l ∧ Below w.heap.size w W) (fun q _ _ => (intOf q).toNat)
  case atStart => exact ⟨N, [], Nat.le_refl _, rfl, rfl, by simp, Below.refl _ _⟩
  case round =>
    obtain ⟨m, l, hm, rfl, rfl, hd, hB⟩ := hrel
    have hs2 : (strOf l).size ≤ 13 := by
      rw [strOf_size]
      have e := congrArg List.length hd
      rw [List.length_append] at e
      have := dg_len2 N (by omega)
      omega
    by_cases hz : 0 < m
    · have hmod : (0 : Int) ≤ (m : Int) % 10 := by omega
      have hmod2 : (m : Int) % 10 ≤ 9 := by omega
      have hdig : (48 : Int) + (m : Int) % 10 = ((UInt8.ofNat (48 + m % 10)).toNat : Int) := by
        rw [UInt8.toNat_ofNat']
        omega
      obtain ⟨b, hb0⟩ : ∃ b : UInt8, b = UInt8.ofNat (48 + m % 10) := ⟨_, rfl⟩
      have HD : Hid (dgL N = dgL (m / 10) ++ ([b] ++ l)) := Lib.hid (by rw [hd, dg_step hz, hb0]; simp)
      have hcv := str_digit wr ((48 : Int) + (m : Int) % 10) b (by rw [hb0]; exact hdig)
      have hq : (m : Int) / 10 = ((m / 10 : Nat) : Int) := by omega
      have HQ := Lib.hid hq
      have hs1 : (strOf [b]).size = 1 := rfl
      clear hd hdig hb0 hq
      go_wp2
      go_roundw
      case rel => exact ⟨m / 10, [b] ++ l, by omega, by rw [HQ.out], by rw [strOf_app], HD.out, hB.alloc hB.size _⟩
      case measure => simp [intOf]; omega
    · obtain rfl : m = 0 := by omega
      have HD : Hid (dgL N = l) := Lib.hid (by rw [hd]; simp [dgL])
      clear hd
      go_wp2
      go_ret
      exact ⟨ret_str (by rw [HD.out]; exact (strOf_app [109] l).symm), hB⟩
end Go.Proofs.Ytpjmcpfmnlfmdaa
