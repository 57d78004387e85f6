/- What impl.JidRight and spec.JidRight answer: jidB. -/
import Derived.Test.YtpjmcpfmnlfmdaaJidParts
import Derived.Deep.QuietTactic
import Derived.BigQuiet
import Derived.RegionTactic
import Derived.IntWalk
import Derived.Deep.DeepFit
namespace Go.Proofs.Ytpjmcpfmnlfmdaa
set_option linter.unusedSimpArgs false
set_option linter.unusedVariables false
open Go.RowKit

theorem ne_nil {s : ByteArray} (h : 0 < s.size) : s.toList ≠ [] := by
  rw [ByteArray.toList_eq]
  intro e
  have h1 : s.data.toList.length = 0 := by rw [e]; rfl
  have h2 : s.data.toList.length = s.size := Array.length_toList
  omega
theorem not_empty {s : ByteArray} (h : 0 < s.size) : s.toList.isEmpty = false := by
  rw [Bool.eq_false_iff]
  intro e
  exact ne_nil h (List.isEmpty_iff.1 e)

set_option maxHeartbeats 2000000 in
theorem impl_domain (s : ByteArray) (w : World) (hs : s.size ≤ maxLen) (hm : MaxL w) : Calls Try.prog 101 #[.string s] w fun e w' => e = .returned (.bool (domB s)) ∧ ∃ n, w' = w.drewN n := by
  obtain ⟨m, hm⟩ := hm
  by_cases h0 : s.size = 0
  · have hf : domB s = false := domB_false fun h => by have := h.1; omega
    rw [hf]
    obtain rfl := size_zero h0
    clear hf h0
    go_enter Try.func101, Try.ntmps101
    go_wp2
    go_ret
    exact ⟨rfl, 0, rfl⟩
  · have h1 : 0 < s.size := by omega
    have hne := ne_nil h1
    have hem := not_empty h1
    have hp := fun w => impl_part_dom s w hs
    unfold maxLen at hs
    obtain ⟨n, hn⟩ : ∃ n, n = s.size - 1 := ⟨_, rfl⟩
    have hz : (s.size : Int) - 1 = (n : Int) := by omega
    have hl : n < s.size := by omega
    have HN := Lib.hid hn
    clear hn
    obtain ⟨b1, hb1⟩ : ∃ b, partB domC s = b := ⟨_, rfl⟩
    rw [hb1] at hp
    have HB1 := Lib.hid hb1
    clear hb1
    cases b1
    · go_enter Try.func101, Try.ntmps101
      go_wp2_with (first | (go_at_call 99; refine (hp _).mono ?_; rintro e w' ⟨rfl, rfl⟩))
      go_ret
      exact ⟨ret_bool (domB_false fun h => by have := h.2.1; rw [HB1.out] at this; cases this).symm, 0, rfl⟩
    · go_enter Try.func101, Try.ntmps101
      go_wp2_with (first | (go_at_call 99; refine (hp _).mono ?_; rintro e w' ⟨rfl, rfl⟩))
      go_quiet (fail)
      have hc := Try.strings_Contains s ⟨#[46, 46]⟩ m (w.drewN nq) (by have := HB1.out; unfold partB at this; simp at this; omega) hm
      rw [show (⟨#[46, 46]⟩ : ByteArray).data.toList = [46, 46] from rfl] at hc
      obtain ⟨b4, hb4⟩ : ∃ b, Lib.contains s.data.toList [46, 46] = b := ⟨_, rfl⟩
      rw [hb4] at hc
      have hs0 := fun w => impl_sep s[0].toNat w
      have hs1 := fun w => impl_sep s[n].toNat w
      obtain ⟨b2, hb2⟩ : ∃ b, sepC s[0].toNat = b := ⟨_, rfl⟩
      obtain ⟨b3, hb3⟩ : ∃ b, sepC s[n].toNat = b := ⟨_, rfl⟩
      have hfin : domB s = (!b2 && !b3 && !b4) := by
        have hn := HN.out
        subst hn
        rw [Bool.eq_iff_iff, domB_iff]
        unfold domP
        rw [HB1.out, hb4]
        constructor
        · rintro ⟨_, _, h3, h4⟩
          have := h3 h1
          rw [hb2, hb3] at this
          rw [this.1, this.2, h4]
          rfl
        · intro h
          simp at h
          exact ⟨h1, rfl, fun _ => ⟨by rw [hb2]; exact h.1.1, by rw [hb3]; exact h.1.2⟩, h.2⟩
      have H2 := Lib.hid hb2
      have H3 := Lib.hid hb3
      have HF := Lib.hid hfin
      clear hfin hb2 hb3 hb4
      cases b2 <;> cases b3 <;>
        (go_wp2_with (first
           | (go_at_call 111; refine (impl_sep _ _).mono ?_; rintro e w' ⟨rfl, rfl⟩; first | rw [H2.out] | rw [H3.out])
           | (go_at_call 112; refine hc.mono ?_; rintro e w' ⟨rfl, rfl⟩))
         go_ret
         exact ⟨ret_bool (by rw [HF.out]; simp), nq, rfl⟩)

theorem below_drewN {B : Nat} {a w : World} (h : Below B a w) (n : Nat) : Below B a (w.drewN n) := ⟨h.os, h.tape, h.output, h.size, h.block⟩
def jidB' : Bool → Bool → Bool → Bool := fun a b c => a && b && c
/-- Is this address valid? -/
noncomputable def jidB (l d r : ByteArray) : Bool := jidB' (partB locC l) (domB d) (partB resC r)
set_option maxHeartbeats 1000000 in
theorem impl_right (l d r : ByteArray) (w : World) (hl : l.size ≤ maxLen) (hd : d.size ≤ maxLen) (hr : r.size ≤ maxLen) (hm : MaxL w) :
    Calls Try.prog 83 #[.agg #[.string l, .string d, .string r]] w fun e w' => e = .returned (.bool (jidB l d r)) ∧ Below w.heap.size w w' := by
  obtain ⟨b1, h1⟩ : ∃ b, partB locC l = b := ⟨_, rfl⟩
  obtain ⟨b2, h2⟩ : ∃ b, domB d = b := ⟨_, rfl⟩
  obtain ⟨b3, h3⟩ : ∃ b, partB resC r = b := ⟨_, rfl⟩
  have i1 := fun w => impl_part_loc l w hl
  have i2 := fun w => impl_domain d w hd
  have i3 := fun w => impl_part_res r w hr
  rw [h1] at i1
  rw [h2] at i2
  rw [h3] at i3
  unfold jidB jidB'
  rw [h1, h2, h3]
  clear h1 h2 h3
  have HM := Lib.hid hm
  have hm1 : ∀ o, MaxL (w.alloc o) := fun o => hm.below ((Below.refl w.heap.size w).alloc (Nat.le_refl _) o) hm.pos
  have HM1 := Lib.hid hm1
  clear hm1 hm
  cases b1 <;> cases b2 <;>
    (go_enter Try.func83, Try.ntmps83
     go_wp2_with (first
       | (go_at_call 101; refine (i2 _ (HM1.out _)).mono ?_; rintro e w' ⟨rfl, n, rfl⟩)
       | (go_at_call 99; go_fit (i1 _); rintro e w' ⟨rfl, rfl⟩)
       | (go_at_call 99; go_fit (i3 _); rintro e w' ⟨rfl, rfl⟩))
     go_ret
     first
       | exact ⟨ret_bool (by simp), (Below.refl _ _).alloc (Nat.le_refl _) _⟩
       | exact ⟨ret_bool (by simp), below_drewN ((Below.refl _ _).alloc (Nat.le_refl _) _) _⟩)
end Go.Proofs.Ytpjmcpfmnlfmdaa
