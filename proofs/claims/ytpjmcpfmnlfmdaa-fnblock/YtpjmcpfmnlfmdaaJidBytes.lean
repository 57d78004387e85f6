/- Which bytes an address may hold, and what the byte tests of the program answer. -/
import Derived.Test.YtpjmcpfmnlfmdaaChecked
import Derived.Test.YtpjmcpfmnlfmdaaMath
import Derived.Test.YtpjmcpfmnlfmdaaShelf
import Derived.WalkKit
import Derived.ProofKit
import Derived.OpenShut
import Derived.Lib.Hide
namespace Go.Proofs.Ytpjmcpfmnlfmdaa
set_option linter.unusedSimpArgs false
set_option linter.unusedVariables false
open Go.RowKit

def letC (c : Nat) : Bool := decide (97 ≤ c ∧ c ≤ 122)
def digC (c : Nat) : Bool := decide (48 ≤ c ∧ c ≤ 57)
def sepC (c : Nat) : Bool := decide (c = 46 ∨ c = 45)
def domC (c : Nat) : Bool := letC c || digC c || sepC c
def locC (c : Nat) : Bool := domC c || decide (c = 95)
def resC (c : Nat) : Bool := decide (33 ≤ c ∧ c ≤ 126 ∧ c ≠ 47 ∧ c ≠ 60 ∧ c ≠ 62 ∧ c ≠ 38 ∧ c ≠ 39 ∧ c ≠ 34)

/-- A call that answers a bool and leaves the world alone. -/
def SaysB (b : Bool) (w : World) (e : Ending) (w' : World) : Prop := e = .returned (.bool b) ∧ w = w'

theorem impl_letter (c : Nat) (w : World) : Calls Try.prog 104 #[.int .u8 (c : Int)] w (SaysB (letC c) w) := by
  by_cases h1 : 97 ≤ (c : Int) <;> by_cases h2 : (c : Int) ≤ 122 <;>
    (go_enter Try.func104, Try.ntmps104
     go_wp2
     go_ret
     refine ⟨ret_bool ?_, rfl⟩
     unfold letC
     simp
     omega)
theorem impl_digit (c : Nat) (w : World) : Calls Try.prog 105 #[.int .u8 (c : Int)] w (SaysB (digC c) w) := by
  by_cases h1 : 48 ≤ (c : Int) <;> by_cases h2 : (c : Int) ≤ 57 <;>
    (go_enter Try.func105, Try.ntmps105
     go_wp2
     go_ret
     refine ⟨ret_bool ?_, rfl⟩
     unfold digC
     simp
     omega)
theorem impl_sep (c : Nat) (w : World) : Calls Try.prog 111 #[.int .u8 (c : Int)] w (SaysB (sepC c) w) := by
  by_cases h1 : (c : Int) = 46 <;> by_cases h2 : (c : Int) = 45 <;>
    (go_enter Try.func111, Try.ntmps111
     go_wp2
     go_ret
     refine ⟨ret_bool ?_, rfl⟩
     unfold sepC
     rw [Bool.eq_iff_iff]
     simp
     omega)
set_option maxHeartbeats 1000000 in
theorem impl_domb (c : Nat) (w : World) : Calls Try.prog 110 #[.int .u8 (c : Int)] w (SaysB (domC c) w) := by
  obtain ⟨b1, h1⟩ : ∃ b, letC c = b := ⟨_, rfl⟩
  obtain ⟨b2, h2⟩ : ∃ b, digC c = b := ⟨_, rfl⟩
  obtain ⟨b3, h3⟩ : ∃ b, sepC c = b := ⟨_, rfl⟩
  have i1 := fun w => impl_letter c w
  have i2 := fun w => impl_digit c w
  have i3 := fun w => impl_sep c w
  rw [h1] at i1
  rw [h2] at i2
  rw [h3] at i3
  unfold domC
  rw [h1, h2, h3]
  clear h1 h2 h3
  cases b1 <;> cases b2 <;>
    (go_enter Try.func110, Try.ntmps110
     go_wp2_with (first
       | (go_at_call 104; refine (i1 _).mono ?_; rintro e w' ⟨rfl, rfl⟩)
       | (go_at_call 105; refine (i2 _).mono ?_; rintro e w' ⟨rfl, rfl⟩)
       | (go_at_call 111; refine (i3 _).mono ?_; rintro e w' ⟨rfl, rfl⟩))
     go_ret
     exact ⟨ret_bool (by simp), rfl⟩)
set_option maxHeartbeats 1000000 in
theorem impl_locb (c : Nat) (w : World) : Calls Try.prog 100 #[.int .u8 (c : Int)] w (SaysB (locC c) w) := by
  obtain ⟨b1, h1⟩ : ∃ b, domC c = b := ⟨_, rfl⟩
  have i1 := fun w => impl_domb c w
  rw [h1] at i1
  unfold locC
  rw [h1]
  clear h1
  cases b1 <;>
    (go_enter Try.func100, Try.ntmps100
     go_wp2_with (first | (go_at_call 110; refine (i1 _).mono ?_; rintro e w' ⟨rfl, rfl⟩))
     go_ret
     refine ⟨ret_bool ?_, rfl⟩
     rw [Bool.eq_iff_iff]
     simp
     try omega)
set_option maxRecDepth 100000 in
theorem mark_idx (c : Nat) (hc : c ≤ 255) : Lib.indexByte [47, 60, 62, 38, 39, 34] ((c : Int).toNat.toUInt8) < 0 ↔ (c ≠ 47 ∧ c ≠ 60 ∧ c ≠ 62 ∧ c ≠ 38 ∧ c ≠ 39 ∧ c ≠ 34) := by
  have h : ∀ x : Fin 256, (Lib.indexByte [47, 60, 62, 38, 39, 34] ((x.val : Int).toNat.toUInt8) < 0 ↔ (x.val ≠ 47 ∧ x.val ≠ 60 ∧ x.val ≠ 62 ∧ x.val ≠ 38 ∧ x.val ≠ 39 ∧ x.val ≠ 34)) := by decide +kernel
  exact h ⟨c, by omega⟩
set_option maxHeartbeats 1000000 in
theorem impl_resb (c : Nat) (hc : c ≤ 255) (w : World) : Calls Try.prog 102 #[.int .u8 (c : Int)] w (SaysB (resC c) w) := by
  have hm := mark_idx c hc
  obtain ⟨z, hz⟩ : ∃ z, Lib.indexByte [47, 60, 62, 38, 39, 34] ((c : Int).toNat.toUInt8) = z := ⟨_, rfl⟩
  have i1 := fun w => Try.strings_IndexByte ⟨#[47, 60, 62, 38, 39, 34]⟩ (c : Int) w
  rw [show (⟨#[47, 60, 62, 38, 39, 34]⟩ : ByteArray).data.toList = [47, 60, 62, 38, 39, 34] from rfl, hz] at i1
  rw [hz] at hm
  clear hz
  unfold resC
  by_cases h1 : 33 ≤ (c : Int) <;> by_cases h2 : (c : Int) ≤ 126 <;>
    (go_enter Try.func102, Try.ntmps102
     go_wp2_with (go_at_call 113; refine (i1 _).mono ?_; rintro e w' ⟨rfl, rfl⟩)
     go_ret
     refine ⟨ret_bool ?_, rfl⟩
     rw [Bool.eq_iff_iff]
     simp
     omega)
end Go.Proofs.Ytpjmcpfmnlfmdaa
