/- The specification's rotations, its numbers of the rounds and its state at first. -/
import Derived.Test.YtpbogdfgomfpjaaDoorChecked
import Derived.Test.YtpbogdfgomfpjaaDoorShaMath
import Derived.Deep.QuietTactic
import Derived.BigQuiet
import Derived.RegionTactic
import Derived.IntWalk
namespace Go.Proofs.YtpbogdfgomfpjaaDoor
open Go.RowKit

theorem spec_turn (x : UInt32) (k : Nat) (hk : 0 < k) (hk2 : k < 32) (w : World) :
    Calls Tryd.prog 98 #[.int .u32 (wz x), .int .u64 (k : Int)] w fun e w' => e = .returned (.int .u32 (wz (rotr x k))) ∧ w = w' := by
  obtain ⟨X, hX⟩ : ∃ X : Int, X = wz x := ⟨_, rfl⟩
  have hr := wz_range x
  rw [← hX] at hr ⊢
  go_enter Tryd.func98, Tryd.ntmps98
  go_wp2
  go_ret
  exact ⟨ret_int (wz_rotr x k hk hk2), rfl⟩

theorem spec_turn' (x : UInt32) (K : Int) (hk : 0 < K ∧ K < 32) (w : World) :
    Calls Tryd.prog 98 #[.int .u32 (wz x), .int .u64 K] w fun e w' => e = .returned (.int .u32 (wz (rotr x K.toNat))) ∧ w = w' := by
  obtain ⟨k, rfl⟩ : ∃ k : Nat, K = k := ⟨K.toNat, by omega⟩
  exact spec_turn x k (by omega) (by omega) w

theorem spec_turn'' (x : UInt32) (K : Int) (hk : 0 < K ∧ K < 32) (w : World) :
    Calls Tryd.prog 98 #[.int .u32 (wz x), .int .u64 K] w fun e w' => e = .returned (.int .u32 (wz (rotr x K.toNat))) ∧ w' = w :=
  (spec_turn' x K hk w).mono fun _ _ ⟨h1, h2⟩ => ⟨h1, h2.symm⟩

theorem spec_keys (w : World) :
    Calls Tryd.prog 99 #[] w fun e w' => e = .returned (.slice (some ⟨w.heap.size, 0, none⟩) 64 64) ∧ Arr w' w.heap.size 117 (shaK.map fun x => .int .u32 (wz x)) ∧ Below w.heap.size w w' ∧ w'.heap.size = w.heap.size + 1 := by
  go_enter Tryd.func99, Tryd.ntmps99
  go_wp2
  go_ret
  exact ⟨rfl, (heap_alloc_new w _).trans (by kernel_rfl), (Below.refl _ _).alloc (Nat.le_refl _) _, by simp⟩

theorem spec_start (w : World) :
    Calls Tryd.prog 80 #[] w fun e w' => e = .returned (.slice (some ⟨w.heap.size, 0, none⟩) 8 8) ∧ Arr w' w.heap.size 2 (shaInit.words.map fun x => .int .i64 (wz x)) ∧ Below w.heap.size w w' := by
  go_enter Tryd.func80, Tryd.ntmps80
  go_wp2
  go_ret
  exact ⟨rfl, (heap_alloc_new w _).trans (by kernel_rfl), (Below.refl _ _).alloc (Nat.le_refl _) _⟩
end Go.Proofs.YtpbogdfgomfpjaaDoor
