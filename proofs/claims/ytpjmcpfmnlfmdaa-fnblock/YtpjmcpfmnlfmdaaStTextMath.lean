/- The mathematics of a stanza's text. -/
import Derived.Test.YtpjmcpfmnlfmdaaStHand
import Derived.Test.YtpjmcpfmnlfmdaaStEscMath
import Derived.Lib.ItoaNum
namespace Go.Proofs.Ytpjmcpfmnlfmdaa
set_option linter.unusedSimpArgs false
set_option linter.unusedVariables false

/-- A field of a mark: its name, its value in quotes; nothing, where the value is empty. -/
def fldL (word : List UInt8) (v : List UInt8) : List UInt8 := if v = [] then [] else 32 :: (word ++ (61 :: 39 :: (v ++ [39])))
def wType : List UInt8 := [116, 121, 112, 101]
def wFrom : List UInt8 := [102, 114, 111, 109]
def wTo : List UInt8 := [116, 111]
def wId : List UInt8 := [105, 100]
def idL (n : Int) : List UInt8 := if n = 0 then [] else Lib.itoa n
/-- A mark up to its end. -/
def headL (k t f o : List UInt8) (n : Int) : List UInt8 := 60 :: (k ++ (fldL wType t ++ (fldL wFrom f ++ (fldL wTo o ++ fldL wId (idL n)))))
def endL (k b : List UInt8) : List UInt8 := if b = [] then [47, 62] else 62 :: (escL b ++ (60 :: 47 :: (k ++ [62])))
def markL (k t f o : List UInt8) (n : Int) (b : List UInt8) : List UInt8 := headL k t f o n ++ endL k b
theorem fld_none (w : List UInt8) : fldL w [] = [] := rfl
theorem fld_some {w v : List UInt8} (h : v ≠ []) : fldL w v = 32 :: (w ++ (61 :: 39 :: (v ++ [39]))) := by unfold fldL; rw [if_neg h]
theorem list_none {s : ByteArray} (h : s.size = 0) : s.data.toList = [] := List.eq_nil_of_length_eq_zero ((size_data s).trans h)
theorem list_some {s : ByteArray} (h : 0 < s.size) : s.data.toList ≠ [] := fun e => by have := size_data s; rw [e] at this; simp at this; omega
theorem dec_len (m k : Nat) (h : m < 10 ^ (k + 1)) : (Lib.decDigits m).length ≤ k + 1 := by
  induction k generalizing m with
  | zero => rw [Lib.decDigits, dif_pos (by omega)]; simp
  | succ k ih =>
    rw [Lib.decDigits]
    split
    · simp
    · rw [List.length_append]
      have := ih (m / 10) (by rw [Nat.pow_succ] at h; omega)
      simp
      omega
theorem id_len {n : Int} (h0 : 0 ≤ n) (h1 : n ≤ 1000000000) : (idL n).length ≤ 10 := by
  unfold idL
  split
  · simp
  · unfold Lib.itoa
    rw [if_neg (by omega)]
    exact dec_len n.toNat 9 (by omega)
theorem fld_len (w v : List UInt8) : (fldL w v).length ≤ w.length + v.length + 4 := by
  unfold fldL
  split
  · simp
  · simp; omega
end Go.Proofs.Ytpjmcpfmnlfmdaa
