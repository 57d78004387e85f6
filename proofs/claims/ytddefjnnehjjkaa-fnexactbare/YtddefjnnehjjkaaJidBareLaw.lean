/- FnExactBare's walk. -/
import Derived.Test.YtddefjnnehjjkaaJidBare
namespace Go.Proofs.Ytddefjnnehjjkaa
open Go.RowKit

theorem three_on {w w' : World} {g : Nat} {a b c : Value} (h : Below w.heap.size w w') (hk : g < w.heap.size) (h0 : w.cell? ⟨g, 0, none⟩ = some a) (h1 : w.cell? ⟨g, 1, none⟩ = some b) (h2 : w.cell? ⟨g, 2, none⟩ = some c) :
    (w'.cell? ⟨g, 0, none⟩ = some a ∧ w'.cell? ⟨g, 1, none⟩ = some b ∧ w'.cell? ⟨g, 2, none⟩ = some c) ∧ g < w'.heap.size :=
  ⟨⟨(h.cell (p := ⟨g, 0, none⟩) hk).trans h0, (h.cell (p := ⟨g, 1, none⟩) hk).trans h1, (h.cell (p := ⟨g, 2, none⟩) hk).trans h2⟩, Nat.lt_of_lt_of_le hk h.size⟩
set_option maxHeartbeats 2000000 in
theorem bare_law (w : World) (l0 d0 r0 : ByteArray) (xl0 : l0.size ≤ maxLen) (xd0 : d0.size ≤ maxLen) (xr0 : r0.size ≤ maxLen) (hm : MaxL w) :
    Calls Try.prog 8 #[.agg #[.string l0, .string d0, .string r0]] w fun e w' => e = .returned (.bool true) ∧ Below w.heap.size w w' := by
  unfold maxLen at xl0 xd0 xr0
  have HK := Lib.hid (fun w1 (h : Below (w.alloc (.cells #[.string l0, .string d0, .string r0] 38)).heap.size (w.alloc (.cells #[.string l0, .string d0, .string r0] 38)) w1) => three_kept h)
  have HM := Lib.hid (fun w1 (h : Below (w.alloc (.cells #[.string l0, .string d0, .string r0] 38)).heap.size (w.alloc (.cells #[.string l0, .string d0, .string r0] 38)) w1) => hm.below (below_one h) hm.pos)
  have i1 := fun w => spec_bare l0 d0 r0 w xl0 xd0 xr0
  have i2 := fun w => impl_bare l0 d0 r0 w xl0 xd0 xr0
  obtain ⟨x, y, z, hv⟩ : ∃ x y z, bareV l0 d0 r0 = .agg #[.string x, .string y, .string z] := by unfold bareV; split <;> exact ⟨_, _, _, rfl⟩
  rw [hv] at i1 i2
  clear hv hm
  have i3 := fun w => eq_jid x y z x y z w
  rw [show eqJ x y z x y z = true by unfold eqJ; simp] at i3
  go_enter Try.func8, Try.ntmps8
  go_wp2_with (first
    | (go_at_call 28; go_fit (sz_jid l0 d0 r0 _ _ xl0 xd0 xr0 (by omega) (by omega)); rintro e w1 ⟨⟨z, rfl, hz⟩, hb⟩; obtain ⟨⟨c0, c1, c2⟩, _, _⟩ := HK.out _ hb)
    | (go_at_call 29; go_fit (to_jid l0 d0 r0 _); rintro e w3 ⟨rfl, hb3⟩; obtain ⟨⟨k0, k1, k2⟩, _, hk⟩ := three_kept hb3; replace hb := hb.trans ((below_one hb3).mono hb.size); obtain ⟨⟨c0, c1, c2⟩, _, _⟩ := HK.out _ hb)
    | (go_at_call 29; go_fit (to_jid l0 d0 r0 _); rintro e w2 ⟨rfl, hb2⟩; replace hb := hb.trans (hb2.mono hb.size); clear hb2; obtain ⟨⟨c0, c1, c2⟩, _, _⟩ := HK.out _ hb)
    | (go_at_call 17; go_fit (i1 _); rintro e w2 ⟨rfl, hb2⟩; replace hb := hb.trans (hb2.mono hb.size); clear hb2; obtain ⟨⟨c0, c1, c2⟩, _, _⟩ := HK.out _ hb)
    | (go_at_call 16; go_fit (i2 _ (HM.out _ hb)); rintro e w4 ⟨rfl, hb4⟩; replace hb := hb.trans (hb4.mono hb.size); obtain ⟨⟨k0, k1, k2⟩, hk⟩ := three_on hb4 hk k0 k1 k2)
    | (go_at_call 31; go_fit (i3 _); rintro e w5 ⟨rfl, hb5⟩; replace hb := hb.trans ((below_one hb5).mono hb.size)))
  all_goals
    go_ret
    exact ⟨rfl, below_one hb⟩
end Go.Proofs.Ytddefjnnehjjkaa
