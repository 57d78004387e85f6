/- The mathematics of escaping: lists of bytes. -/
import Derived.Test.YtpjmcpfmnlfmdaaStForms
namespace Go.Proofs.Ytpjmcpfmnlfmdaa
set_option linter.unusedSimpArgs false
set_option linter.unusedVariables false

/-- What stands for a byte. -/
def escC (c : UInt8) : List UInt8 := if markB c.toNat then formL c.toNat else [c]
def escL (l : List UInt8) : List UInt8 := l.flatMap escC
theorem escL_nil : escL [] = [] := rfl
theorem escL_cons (c : UInt8) (l : List UInt8) : escL (c :: l) = escC c ++ escL l := rfl
theorem escL_append (l m : List UInt8) : escL (l ++ m) = escL l ++ escL m := by simp [escL]
theorem escC_mark {c : UInt8} (h : markB c.toNat = true) : escC c = formL c.toNat := by unfold escC; rw [if_pos h]
theorem escC_not {c : UInt8} (h : markB c.toNat = false) : escC c = [c] := by unfold escC; rw [if_neg (by rw [h]; exact Bool.false_ne_true)]
theorem form_len (r : Int) : (formL r).length ≤ 6 := by
  unfold formL
  repeat' split
  all_goals decide
theorem form_pos {r : Int} (h : markB r = true) : 0 < (formL r).length := by
  unfold markB at h
  simp at h
  rcases h with rfl | rfl | rfl | rfl | rfl <;> decide
theorem form_none {r : Int} (h : markB r = false) : formL r = [] := by
  unfold markB at h
  simp at h
  unfold formL
  simp [h]
theorem escC_len (c : UInt8) : (escC c).length ≤ 6 := by
  unfold escC
  split
  · exact form_len _
  · simp
theorem escL_len (l : List UInt8) : (escL l).length ≤ 6 * l.length := by
  induction l with
  | nil => simp [escL_nil]
  | cons c l ih => rw [escL_cons, List.length_append, List.length_cons]; have := escC_len c; omega
theorem escL_none {l : List UInt8} (h : ∀ c ∈ l, markB c.toNat = false) : escL l = l := by
  induction l with
  | nil => rfl
  | cons c l ih =>
    rw [escL_cons, escC_not (h c (by simp)), ih (fun x hx => h x (by simp [hx]))]
    rfl
theorem escL_take (s : ByteArray) (k : Nat) (h : k < s.size) : escL (s.data.toList.take (k + 1)) = escL (s.data.toList.take k) ++ escC s[k] := by
  rw [List.take_succ_eq_append_getElem (by simpa using h), escL_append]
  congr 1
  simp [escL]
  rfl
end Go.Proofs.Ytpjmcpfmnlfmdaa
