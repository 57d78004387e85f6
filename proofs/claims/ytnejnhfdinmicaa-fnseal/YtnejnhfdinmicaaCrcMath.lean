/- Plain mathematics of the CRC: the register's step is one to one, so that one changed byte changes the CRC. -/
import Derived.Test.YtnejnhfdinmicaaMath
namespace Go.Proofs.Ytnejnhfdinmicaa
open Go.RowKit

/-- The register shifted by one bit. -/
def crcStep (x : Nat) : Nat := if x % 2 = 1 then x / 2 ^^^ 3988292384 else x / 2
/-- The register shifted by k bits. -/
def crcSteps : Nat → Nat → Nat
  | 0, x => x
  | k + 1, x => crcStep (crcSteps k x)
/-- The register behind one byte more. -/
def crcOne (x : Nat) (b : UInt8) : Nat := crcSteps 8 (x ^^^ b.toNat)
/-- The register behind some bytes more. -/
def crcRun (x : Nat) (l : List UInt8) : Nat := l.foldl crcOne x
/-- The CRC of bytes with the CRC c, followed by l. -/
def crcOf (c : Nat) (l : List UInt8) : Nat := crcRun (c ^^^ 4294967295) l ^^^ 4294967295

theorem xor_lt32 {a b : Nat} (ha : a < 4294967296) (hb : b < 4294967296) : a ^^^ b < 4294967296 := Nat.xor_lt_two_pow (n := 32) ha hb
theorem xor_cancel {a b c : Nat} (h : a ^^^ c = b ^^^ c) : a = b := by
  have := congrArg (· ^^^ c) h
  simpa [Nat.xor_assoc] using this
theorem crcStep_lt {x : Nat} (h : x < 4294967296) : crcStep x < 4294967296 := by
  unfold crcStep
  split
  · exact xor_lt32 (by omega) (by omega)
  · omega
theorem crcSteps_lt {x : Nat} (h : x < 4294967296) : ∀ k, crcSteps k x < 4294967296
  | 0 => h
  | k + 1 => crcStep_lt (crcSteps_lt h k)
theorem crcOne_lt {x : Nat} (h : x < 4294967296) (b : UInt8) : crcOne x b < 4294967296 := crcSteps_lt (xor_lt32 h (by have := b.toNat_lt; omega)) 8
theorem crcRun_lt : ∀ (l : List UInt8) {x : Nat}, x < 4294967296 → crcRun x l < 4294967296
  | [], _, h => h
  | b :: l, x, h => by
    have := crcRun_lt l (crcOne_lt h b)
    simpa [crcRun] using this
theorem crcRun_snoc (x : Nat) (l : List UInt8) (b : UInt8) : crcRun x (l ++ [b]) = crcOne (crcRun x l) b := by simp [crcRun]
theorem crcRun_append (x : Nat) (l m : List UInt8) : crcRun x (l ++ m) = crcRun (crcRun x l) m := by simp [crcRun]
theorem crcOf_lt {c : Nat} (h : c < 4294967296) (l : List UInt8) : crcOf c l < 4294967296 := xor_lt32 (crcRun_lt l (xor_lt32 h (by omega))) (by omega)
/-- A CRC goes on. -/
theorem crcOf_append (c : Nat) (l m : List UInt8) : crcOf (crcOf c l) m = crcOf c (l ++ m) := by
  unfold crcOf
  rw [crcRun_append, Nat.xor_assoc, Nat.xor_self, Nat.xor_zero]

theorem testBit31 {x : Nat} (h : x < 4294967296) : (crcStep x).testBit 31 = decide (x % 2 = 1) := by
  unfold crcStep
  have hlow : (x / 2).testBit 31 = false := Nat.testBit_lt_two_pow (by omega)
  split
  · rename_i h1
    rw [Nat.testBit_xor, hlow, h1]
    decide
  · rename_i h1
    rw [hlow]
    simp [h1]
theorem crcStep_inj {x y : Nat} (hx : x < 4294967296) (hy : y < 4294967296) (h : crcStep x = crcStep y) : x = y := by
  have hb : decide (x % 2 = 1) = decide (y % 2 = 1) := by rw [← testBit31 hx, ← testBit31 hy, h]
  unfold crcStep at h
  by_cases h1 : x % 2 = 1
  · have h2 : y % 2 = 1 := by simpa [h1] using hb
    rw [if_pos h1, if_pos h2] at h
    have := xor_cancel h
    omega
  · have h2 : ¬ y % 2 = 1 := by simpa [h1] using hb
    rw [if_neg h1, if_neg h2] at h
    omega
theorem crcSteps_inj {x y : Nat} (hx : x < 4294967296) (hy : y < 4294967296) : ∀ k, crcSteps k x = crcSteps k y → x = y
  | 0, h => h
  | k + 1, h => crcSteps_inj hx hy k (crcStep_inj (crcSteps_lt hx k) (crcSteps_lt hy k) h)
theorem crcOne_inj {x y : Nat} (hx : x < 4294967296) (hy : y < 4294967296) (b : UInt8) (h : crcOne x b = crcOne y b) : x = y := by
  have hb : b.toNat < 4294967296 := by have := b.toNat_lt; omega
  exact xor_cancel (crcSteps_inj (xor_lt32 hx hb) (xor_lt32 hy hb) 8 h)
theorem crcOne_byte {x : Nat} (hx : x < 4294967296) {b c : UInt8} (h : crcOne x b = crcOne x c) : b = c := by
  have hb : b.toNat < 4294967296 := by have := b.toNat_lt; omega
  have hc : c.toNat < 4294967296 := by have := c.toNat_lt; omega
  have := crcSteps_inj (xor_lt32 hx hb) (xor_lt32 hx hc) 8 h
  rw [Nat.xor_comm x, Nat.xor_comm x] at this
  exact UInt8.toNat_inj.1 (xor_cancel this)
theorem crcRun_inj : ∀ (l : List UInt8) {x y : Nat}, x < 4294967296 → y < 4294967296 → crcRun x l = crcRun y l → x = y
  | [], _, _, _, _, h => h
  | b :: l, x, y, hx, hy, h => crcOne_inj hx hy b (crcRun_inj l (crcOne_lt hx b) (crcOne_lt hy b) (by simpa [crcRun] using h))
/-- One byte changed: another CRC. -/
theorem crcOf_changed {c : Nat} (hc : c < 4294967296) (l m : List UInt8) {a b : UInt8} (hab : a ≠ b) : crcOf c (l ++ a :: m) ≠ crcOf c (l ++ b :: m) := by
  intro h
  unfold crcOf at h
  have h := xor_cancel h
  rw [crcRun_append, crcRun_append] at h
  have hx : crcRun (c ^^^ 4294967295) l < 4294967296 := crcRun_lt l (xor_lt32 hc (by omega))
  have h' : crcRun (crcOne (crcRun (c ^^^ 4294967295) l) a) m = crcRun (crcOne (crcRun (c ^^^ 4294967295) l) b) m := by simpa [crcRun] using h
  exact hab (crcOne_byte hx (crcRun_inj m (crcOne_lt hx a) (crcOne_lt hx b) h'))

theorem xor32 {a b : Nat} (ha : a < 4294967296) (hb : b < 4294967296) : bits .xor .u32 (a : Int) (b : Int) = ((a ^^^ b : Nat) : Int) := u32_xor_nat a b ha hb
theorem not32 {a : Nat} (ha : a < 4294967296) : bits .xor .u32 IntKind.u32.max (a : Int) = ((a ^^^ 4294967295 : Nat) : Int) := by
  rw [Nat.xor_comm]
  exact xor32 (a := 4294967295) (by omega) ha
theorem and32 {a : Nat} (ha : a < 4294967296) : bits .and .u32 (a : Int) 1 = ((a % 2 : Nat) : Int) := by
  have := u32_and_nat a 1 ha (by omega)
  rw [nat_mask1] at this
  exact this
theorem crc_odd {x : Nat} (hx : x < 4294967296) (h : x % 2 = 1) : bits .xor .u32 ((x : Int) / 2) 3988292384 = ((crcStep x : Nat) : Int) := by
  unfold crcStep
  rw [if_pos h]
  exact xor32 (a := x / 2) (b := 3988292384) (by omega) (by omega)
theorem crc_even {x : Nat} (h : ¬ x % 2 = 1) : (x : Int) / 2 = ((crcStep x : Nat) : Int) := by
  unfold crcStep
  rw [if_neg h]
  rfl
end Go.Proofs.Ytnejnhfdinmicaa
