/- laws.lwSessions, laws.lwBound. -/
import Derived.Test.YtkdljhmenejckaaSeOutL
import Derived.Test.YtkdljhmenejckaaSeLw
namespace Go.Proofs.Ytkdljhmenejckaa
set_option linter.unusedSimpArgs false
set_option linter.unusedVariables false
open Go.RowKit Go.Joins

set_option maxRecDepth 100000 in
set_option maxHeartbeats 2000000 in
theorem lw_sess (xs : List SeL) (p q : Option Addr) (c d : Nat) (w : World) (hn : xs.length ≤ 2000000) (hp : RowC seC 4 w p xs) (hq : RowC seC 4 w q xs) :
    Calls Try.prog 21 #[.slice p xs.length c, .slice q xs.length d] w fun e w' => e = .returned (.bool true) ∧ Below w.heap.size w w' := by
  obtain ⟨n, hxn⟩ : ∃ n, xs.length = n := ⟨_, rfl⟩
  have HP := Lib.hid (fun W (h : Below w.heap.size w W) => hp.on h)
  have HQ := Lib.hid (fun W (h : Below w.heap.size w W) => hq.on h)
  have HN := Lib.hid hxn
  rw [hxn] at hn ⊢
  clear hp hq hxn
  go_enter Try.func21, Try.ntmps21
  go_wp2
  go_loopw [5] (fun iq wr => ∃ i : Nat, i ≤ n ∧ iq = .int .i64 i ∧ Below w.heap.size w wr) (fun i _ => n - (intOf i).toNat)
  case atStart => exact ⟨0, Nat.zero_le _, rfl, Below.refl _ _⟩
  case round =>
    obtain ⟨i, hi, rfl, hb⟩ := hrel
    have HB := Lib.hid hb
    by_cases hlt : i < n
    · have hlt1 : i < xs.length := by rw [HN.out]; exact hlt
      obtain ⟨a, rfl, ha, a0, a1, a2, a3⟩ := row_se4 (HP.out _ hb) hlt1
      obtain ⟨b, rfl, hb0, b0, b1, b2, b3⟩ := row_se4 (HQ.out _ hb) hlt1
      obtain ⟨x, hx⟩ : ∃ x, xs[i] = x := ⟨_, rfl⟩
      rw [hx] at a0 a1 a2 a3 b0 b1 b2 b3
      clear hx hb
      go_wp2
      go_region
      all_goals (try go_wp2)
      exact ⟨⟨i + 1, by omega, by go_num, HB.out.drew⟩, by simp [intOf]; omega⟩
    · obtain rfl : i = n := by omega
      clear hb
      go_wp2
      go_ret
      exact ⟨rfl, HB.out⟩
end Go.Proofs.Ytkdljhmenejckaa
