/- What impl.JidRight and spec.JidRight answer: jidB. -/
import Derived.Test.YtkjkfcljejjpbaaDoorJidParts
import Derived.Deep.QuietTactic
import Derived.BigQuiet
import Derived.RegionTactic
import Derived.IntWalk
import Derived.Deep.DeepFit
namespace Go.Proofs.YtkjkfcljejjpbaaDoor
set_option linter.unusedSimpArgs false
set_option linter.unusedVariables false
open Go.RowKit

theorem ne_nil {s : ByteArray} (h : 0 < s.size) : s.toList ≠ [] := by
  rw [ByteArray.toList_eq]
  intro e
  have h1 : s.data.toList.length = 0 := by rw [e]; rfl
  have h2 : s.data.toList.length = s.size := Array.length_toList
  omega
theorem not_empty {s : ByteArray} (h : 0 < s.size) : s.toList.isEmpty = false := by
  rw [Bool.eq_false_iff]
  intro e
  exact ne_nil h (List.isEmpty_iff.1 e)

set_option maxHeartbeats 2000000 in
theorem impl_domain (s : ByteArray) (w : World) (hs : s.size ≤ maxLen) (hm : MaxL w) : Calls Tryd.prog 36 #[.string s] w fun e w' => e = .returned (.bool (domB s)) ∧ ∃ n, w' = w.drewN n := by
  obtain ⟨m, hm⟩ := hm
  by_cases h0 : s.size = 0
  · have hf : domB s = false := domB_false fun h => by have := h.1; omega
    rw [hf]
    obtain rfl := size_zero h0
    clear hf h0
    go_enter Tryd.func36, Tryd.ntmps36
    go_wp2
    go_ret
    exact ⟨rfl, 0, rfl⟩
  · have h1 : 0 < s.size := by omega
    have hne := ne_nil h1
    have hem := not_empty h1
    have hp := fun w => impl_part_dom s w hs
    unfold maxLen at hs
    obtain ⟨n, hn⟩ : ∃ n, n = s.size - 1 := ⟨_, rfl⟩
    have hz : (s.size : Int) - 1 = (n : Int) := by omega
    have hl : n < s.size := by omega
    have HN := Lib.hid hn
    clear hn
    obtain ⟨b1, hb1⟩ : ∃ b, partB domC s = b := ⟨_, rfl⟩
    rw [hb1] at hp
    have HB1 := Lib.hid hb1
    clear hb1
    cases b1
    · go_enter Tryd.func36, Tryd.ntmps36
      go_wp2_with (first | (go_at_call 44; refine (hp _).mono ?_; rintro e w' ⟨rfl, rfl⟩))
      go_ret
      exact ⟨ret_bool (domB_false fun h => by have := h.2.1; rw [HB1.out] at this; cases this).symm, 0, rfl⟩
    · go_enter Tryd.func36, Tryd.ntmps36
      go_wp2_with (first | (go_at_call 44; refine (hp _).mono ?_; rintro e w' ⟨rfl, rfl⟩))
      go_quiet (fail)
      have hc := Tryd.strings_Contains s ⟨#[46, 46]⟩ m (w.drewN nq) (by have := HB1.out; unfold partB at this; simp at this; omega) hm
      rw [show (⟨#[46, 46]⟩ : ByteArray).data.toList = [46, 46] from rfl] at hc
      obtain ⟨b4, hb4⟩ : ∃ b, Lib.contains s.data.toList [46, 46] = b := ⟨_, rfl⟩
      rw [hb4] at hc
      have hs0 := fun w => impl_sep s[0].toNat w
      have hs1 := fun w => impl_sep s[n].toNat w
      obtain ⟨b2, hb2⟩ : ∃ b, sepC s[0].toNat = b := ⟨_, rfl⟩
      obtain ⟨b3, hb3⟩ : ∃ b, sepC s[n].toNat = b := ⟨_, rfl⟩
      have hfin : domB s = (!b2 && !b3 && !b4) := by
        have hn := HN.out
        subst hn
        rw [Bool.eq_iff_iff, domB_iff]
        unfold domP
        rw [HB1.out, hb4]
        constructor
        · rintro ⟨_, _, h3, h4⟩
          have := h3 h1
          rw [hb2, hb3] at this
          rw [this.1, this.2, h4]
          rfl
        · intro h
          simp at h
          exact ⟨h1, rfl, fun _ => ⟨by rw [hb2]; exact h.1.1, by rw [hb3]; exact h.1.2⟩, h.2⟩
      have H2 := Lib.hid hb2
      have H3 := Lib.hid hb3
      have HF := Lib.hid hfin
      clear hfin hb2 hb3 hb4
      cases b2 <;> cases b3 <;>
        (go_wp2_with (first
           | (go_at_call 46; refine (impl_sep _ _).mono ?_; rintro e w' ⟨rfl, rfl⟩; first | rw [H2.out] | rw [H3.out])
           | (go_at_call 47; refine hc.mono ?_; rintro e w' ⟨rfl, rfl⟩))
         go_ret
         exact ⟨ret_bool (by rw [HF.out]; simp), nq, rfl⟩)

theorem below_drewN {B : Nat} {a w : World} (h : Below B a w) (n : Nat) : Below B a (w.drewN n) := ⟨h.os, h.tape, h.output, h.size, h.block⟩
def jidB' : Bool → Bool → Bool → Bool := fun a b c => a && b && c
/-- Is this address valid? -/
noncomputable def jidB (l d r : ByteArray) : Bool := jidB' (partB locC l) (domB d) (partB resC r)
end Go.Proofs.YtkjkfcljejjpbaaDoor
