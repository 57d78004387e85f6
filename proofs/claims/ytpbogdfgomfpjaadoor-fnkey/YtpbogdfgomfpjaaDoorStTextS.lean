/- What spec.l01Dec and spec.l04Mark answer. -/
import Derived.Test.YtpbogdfgomfpjaaDoorStTextMath
import Derived.Test.YtpbogdfgomfpjaaDoorStEscS
namespace Go.Proofs.YtpbogdfgomfpjaaDoor
set_option linter.unusedSimpArgs false
set_option linter.unusedVariables false
open Go.RowKit

/-- The digits of a number; none of nought. -/
def dgL (m : Nat) : List UInt8 := if m = 0 then [] else Lib.decDigits m
theorem dg_step {m : Nat} (h : 0 < m) : dgL m = dgL (m / 10) ++ [UInt8.ofNat (48 + m % 10)] := by
  unfold dgL
  rw [if_neg (by omega), Lib.decDigits]
  split
  · rw [if_pos (by omega)]
    have : m % 10 = m := by omega
    rw [this]
    rfl
  · rw [if_neg (by omega)]
theorem str_digit (w : World) (x : Int) (b : UInt8) (hx : x = (b.toNat : Int)) : (convert 22 9 (.slice (some ⟨w.heap.size, 0, none⟩) 1 1)).run Tryd.prog (w.alloc (.cells #[.int .u8 x] 5)) = .ok (.string (strOf [b])) (w.alloc (.cells #[.int .u8 x] 5)) := by
  subst hx
  exact run_string_arr (P := Tryd.prog) _ 22 9 5 w.heap.size 5 1 1 [byteV b] [b] (Arr.fresh w _ [byteV b]) rfl rfl Tryd.underlying22 Tryd.underlying5 Tryd.underlying9
theorem dg_len (m : Nat) (h : m ≤ 1000000000) : (dgL m).length ≤ 10 := by
  unfold dgL
  split
  · simp
  · exact dec_len m 9 (by omega)
theorem strOf_app (l m : List UInt8) : strOf (l ++ m) = strOf l ++ strOf m := by
  apply WideShapes.bytes_inj
  simp [strOf, ByteArray.data_append]
set_option maxRecDepth 100000 in
set_option maxHeartbeats 1000000 in
theorem spec_dec (n : Int) (w : World) (h0 : 0 < n) (h1 : n ≤ 1000000000) :
    Calls Tryd.prog 49 #[.int .i64 n] w fun e w' => e = .returned (.string (strOf (idL n))) ∧ Below w.heap.size w w' := by
  have HI : Hid (idL n = dgL n.toNat) := Lib.hid (by unfold idL dgL Lib.itoa; rw [if_neg (by omega), if_neg (by omega), if_neg (by omega)])
  rw [HI.out]
  obtain ⟨N, rfl⟩ : ∃ N : Nat, n = (N : Int) := ⟨n.toNat, by omega⟩
  rw [Int.toNat_natCast]
  clear HI
  have hz : ((N : Int) == 0) = false := by rw [beq_eq_false_iff_ne]; omega
  go_enter Tryd.func49, Tryd.ntmps49
  go_wp2
  clear hz
  go_loopw [0, 4] (fun q s W => ∃ (m : Nat) (l : List UInt8), m ≤ N ∧ q = .int .i64 m ∧ s = .string (strOf l) ∧ dgL N = dgL m ++ l ∧ Below w.heap.size w W) (fun q _ _ => (intOf q).toNat)
  case atStart => exact ⟨N, [], Nat.le_refl _, rfl, rfl, by simp, Below.refl _ _⟩
  case round =>
    obtain ⟨m, l, hm, rfl, rfl, hd, hB⟩ := hrel
    by_cases hz : 0 < m
    · have hne : ((m : Int) == 0) = false := by rw [beq_eq_false_iff_ne]; omega
      have hne2 : ((m : Int) != 0) = true := by rw [bne_iff_ne]; omega
      have hmod : (0 : Int) ≤ (m : Int) % 10 := by omega
      have hmod2 : (m : Int) % 10 ≤ 9 := by omega
      have hdig : (48 : Int) + (m : Int) % 10 = ((UInt8.ofNat (48 + m % 10)).toNat : Int) := by
        rw [UInt8.toNat_ofNat']
        omega
      obtain ⟨b, hb0⟩ : ∃ b : UInt8, b = UInt8.ofNat (48 + m % 10) := ⟨_, rfl⟩
      have HD : Hid (dgL N = dgL (m / 10) ++ ([b] ++ l)) := Lib.hid (by rw [hd, dg_step hz, hb0]; simp)
      have hcv := str_digit wr ((48 : Int) + (m : Int) % 10) b (by rw [hb0]; exact hdig)
      have hq : (m : Int) / 10 = ((m / 10 : Nat) : Int) := by omega
      have HQ := Lib.hid hq
      have hs1 : (strOf [b]).size = 1 := rfl
      have hs2 : (strOf l).size ≤ 10 := by
        rw [strOf_size]
        have e := congrArg List.length hd
        rw [List.length_append] at e
        have := dg_len N (by omega)
        omega
      clear hd hdig hb0 hq
      go_wp2
      go_roundw
      case rel => exact ⟨m / 10, [b] ++ l, by omega, by rw [HQ.out], by rw [strOf_app], HD.out, hB.alloc hB.size _⟩
      case measure => simp [intOf]; omega
    · obtain rfl : m = 0 := by omega
      have HD : Hid (dgL N = l) := Lib.hid (by rw [hd]; simp [dgL])
      clear hd
      have hN : ¬ ((N : Int) < 0) := by omega
      go_wp2
      go_ret
      exact ⟨by rw [HD.out]; rfl, hB⟩
end Go.Proofs.YtpbogdfgomfpjaaDoor
