/- Which bytes an address may hold, and what the byte tests of the program answer. -/
import Derived.Test.YtkjkfcljejjpbaaChecked
import Derived.Test.YtkjkfcljejjpbaaMath
import Derived.Test.YtkjkfcljejjpbaaShelf
import Derived.WalkKit
import Derived.ProofKit
import Derived.OpenShut
import Derived.Lib.Hide
namespace Go.Proofs.Ytkjkfcljejjpbaa
set_option linter.unusedSimpArgs false
set_option linter.unusedVariables false
open Go.RowKit

def letC (c : Nat) : Bool := decide (97 ≤ c ∧ c ≤ 122)
def digC (c : Nat) : Bool := decide (48 ≤ c ∧ c ≤ 57)
def sepC (c : Nat) : Bool := decide (c = 46 ∨ c = 45)
def domC (c : Nat) : Bool := letC c || digC c || sepC c
def locC (c : Nat) : Bool := domC c || decide (c = 95)
def resC (c : Nat) : Bool := decide (33 ≤ c ∧ c ≤ 126 ∧ c ≠ 47 ∧ c ≠ 60 ∧ c ≠ 62 ∧ c ≠ 38 ∧ c ≠ 39 ∧ c ≠ 34)

/-- A call that answers a bool and leaves the world alone. -/
def SaysB (b : Bool) (w : World) (e : Ending) (w' : World) : Prop := e = .returned (.bool b) ∧ w = w'

set_option maxRecDepth 100000 in
theorem mark_idx (c : Nat) (hc : c ≤ 255) : Lib.indexByte [47, 60, 62, 38, 39, 34] ((c : Int).toNat.toUInt8) < 0 ↔ (c ≠ 47 ∧ c ≠ 60 ∧ c ≠ 62 ∧ c ≠ 38 ∧ c ≠ 39 ∧ c ≠ 34) := by
  have h : ∀ x : Fin 256, (Lib.indexByte [47, 60, 62, 38, 39, 34] ((x.val : Int).toNat.toUInt8) < 0 ↔ (x.val ≠ 47 ∧ x.val ≠ 60 ∧ x.val ≠ 62 ∧ x.val ≠ 38 ∧ x.val ≠ 39 ∧ x.val ≠ 34)) := by decide +kernel
  exact h ⟨c, by omega⟩
set_option maxHeartbeats 1000000 in
theorem impl_resb (c : Nat) (hc : c ≤ 255) (w : World) : Calls Try.prog 83 #[.int .u8 (c : Int)] w (SaysB (resC c) w) := by
  have hm := mark_idx c hc
  obtain ⟨z, hz⟩ : ∃ z, Lib.indexByte [47, 60, 62, 38, 39, 34] ((c : Int).toNat.toUInt8) = z := ⟨_, rfl⟩
  have i1 := fun w => Try.strings_IndexByte ⟨#[47, 60, 62, 38, 39, 34]⟩ (c : Int) w
  rw [show (⟨#[47, 60, 62, 38, 39, 34]⟩ : ByteArray).data.toList = [47, 60, 62, 38, 39, 34] from rfl, hz] at i1
  rw [hz] at hm
  clear hz
  unfold resC
  by_cases h1 : 33 ≤ (c : Int) <;> by_cases h2 : (c : Int) ≤ 126 <;>
    (go_enter Try.func83, Try.ntmps83
     go_wp2_with (go_at_call 96; refine (i1 _).mono ?_; rintro e w' ⟨rfl, rfl⟩)
     go_ret
     refine ⟨ret_bool ?_, rfl⟩
     rw [Bool.eq_iff_iff]
     simp
     omega)
end Go.Proofs.Ytkjkfcljejjpbaa
