/- What spec.l01Dec and spec.l04Mark answer. -/
import Derived.Test.YtpjmcpfmnlfmdaaStTextMath
import Derived.Test.YtpjmcpfmnlfmdaaStEscS
namespace Go.Proofs.Ytpjmcpfmnlfmdaa
set_option linter.unusedSimpArgs false
set_option linter.unusedVariables false
open Go.RowKit

/-- The digits of a number; none of nought. -/
def dgL (m : Nat) : List UInt8 := if m = 0 then [] else Lib.decDigits m
theorem dg_step {m : Nat} (h : 0 < m) : dgL m = dgL (m / 10) ++ [UInt8.ofNat (48 + m % 10)] := by
  unfold dgL
  rw [if_neg (by omega), Lib.decDigits]
  split
  · rw [if_pos (by omega)]
    have : m % 10 = m := by omega
    rw [this]
    rfl
  · rw [if_neg (by omega)]
theorem str_digit (w : World) (x : Int) (b : UInt8) (hx : x = (b.toNat : Int)) : (convert 22 9 (.slice (some ⟨w.heap.size, 0, none⟩) 1 1)).run Try.prog (w.alloc (.cells #[.int .u8 x] 5)) = .ok (.string (strOf [b])) (w.alloc (.cells #[.int .u8 x] 5)) := by
  subst hx
  exact run_string_arr (P := Try.prog) _ 22 9 5 w.heap.size 5 1 1 [byteV b] [b] (Arr.fresh w _ [byteV b]) rfl rfl Try.underlying22 Try.underlying5 Try.underlying9
theorem dg_len (m : Nat) (h : m ≤ 1000000000) : (dgL m).length ≤ 10 := by
  unfold dgL
  split
  · simp
  · exact dec_len m 9 (by omega)
theorem strOf_app (l m : List UInt8) : strOf (l ++ m) = strOf l ++ strOf m := by
  apply WideShapes.bytes_inj
  simp [strOf, ByteArray.data_append]
end Go.Proofs.Ytpjmcpfmnlfmdaa
