/- The number of a code at a place. -/
import Derived.Test.YtgfpcmfcnphalaaEdgeBase
namespace Go.Proofs.Ytgfpcmfcnphalaa
set_option linter.unusedSimpArgs false
set_option linter.unusedVariables false
open Go.RowKit

/-- The number of a code at a place. -/
theorem lw_at (a : Option Addr) (len cap at_ : Nat) (most : Int) (w : World) (hlen : len ≤ 1048576) (hrow : SrcRow w w.heap.size a len) (hm0 : 0 ≤ most) (hm : most ≤ 9223372036854775807) (hat : at_ ≤ 1048576) :
    Calls Try.prog 21 #[.slice a len cap, .int .i64 (at_ : Int), .int .i64 most] w fun e w' => (∃ v, e = .returned v ∧ NumIn most v) ∧ w = w' := by
  by_cases h1 : most ≤ 1
  · have HR := Lib.hid hrow
    clear hrow
    go_enter Try.func21, Try.ntmps21
    go_wp2
    all_goals (go_ret; exact ⟨⟨_, rfl, ⟨0, rfl, by omega, .inr rfl⟩⟩, rfl⟩)
  · by_cases h2 : len = 0
    · subst h2
      have HR := Lib.hid hrow
      clear hrow
      go_enter Try.func21, Try.ntmps21
      go_wp2
      all_goals (go_ret; exact ⟨⟨_, rfl, ⟨0, rfl, by omega, .inr rfl⟩⟩, rfl⟩)
    · have hlt : at_ % len < len := Nat.mod_lt _ (by omega)
      obtain ⟨b, off, z, rfl, hb, hc, hz0, hz1⟩ := hrow (at_ % len) hlt
      clear hrow
      have h3 : ((len : Int) == 0) = false := by simp; omega
      go_enter Try.func21, Try.ntmps21
      go_wp2
      go_ret
      exact ⟨⟨_, rfl, ⟨z % most, rfl, Int.emod_nonneg _ (by omega), .inl (Int.emod_lt_of_pos _ (by omega))⟩⟩, rfl⟩

/-- The number of a code at a place: one number, whatever has been drawn besides. -/
theorem lw_det (a : Option Addr) (len cap at_ : Nat) (K : Int) (hK : K = (at_ : Int)) (most : Int) (w : World) (hlen : len ≤ 1048576) (hrow : SrcRow w w.heap.size a len) (hm0 : 1 < most) (hm : most ≤ 9223372036854775807) (hat : at_ ≤ 1048576) :
    ∃ r : Int, 0 ≤ r ∧ r < most ∧ ∀ W : World, W.heap = w.heap → Calls Try.prog 21 #[.slice a len cap, .int .i64 K, .int .i64 most] W fun e w' => e = .returned (.int .i64 r) ∧ W = w' := by
  subst hK
  by_cases h2 : len = 0
  · subst h2
    refine ⟨0, by omega, by omega, fun W _ => ?_⟩
    have HR := Lib.hid hrow
    clear hrow
    go_enter Try.func21, Try.ntmps21
    go_wp2
    all_goals (go_ret; exact ⟨rfl, rfl⟩)
  · have hlt : at_ % len < len := Nat.mod_lt _ (by omega)
    obtain ⟨b, off, z, rfl, hb, hc, hz0, hz1⟩ := hrow (at_ % len) hlt
    refine ⟨z % most, Int.emod_nonneg _ (by omega), Int.emod_lt_of_pos _ (by omega), fun W hW => ?_⟩
    have hcW : W.cell? ⟨b, off + at_ % len, none⟩ = some (.int .u8 z) := by rw [← hc]; unfold World.cell?; rw [hW]
    clear hrow hc hW
    have h3 : ((len : Int) == 0) = false := by simp; omega
    go_enter Try.func21, Try.ntmps21
    go_wp2
    go_ret
    exact ⟨rfl, rfl⟩

end Go.Proofs.Ytgfpcmfcnphalaa
