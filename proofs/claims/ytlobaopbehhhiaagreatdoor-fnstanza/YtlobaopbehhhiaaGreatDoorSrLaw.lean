/- FnExactStanzaRead's walk. -/
import Derived.Test.YtlobaopbehhhiaaGreatDoorSrReadI
namespace Go.Proofs.YtlobaopbehhhiaaGreatDoor
set_option linter.unusedSimpArgs false
set_option linter.unusedVariables false
open Go.RowKit Go.Joins

theorem srV_form (T : List UInt8) : ∃ x c, srV T = outV x c := by
  unfold srV
  split
  · exact ⟨_, _, rfl⟩
  · split
    · exact ⟨_, _, rfl⟩
    · exact ⟨_, _, rfl⟩
theorem eq_st4 (x : StL) (w : World) : Calls Tryz.prog 71 #[stLV x, stLV x] w fun e w' => e = .returned (.bool true) ∧ Below w.heap.size w w' := by
  unfold stLV
  have e1 : ∀ s : ByteArray, (s.toList == s.toList) = true := fun s => by simp
  go_enter Tryz.func71, Tryz.ntmps71
  go_wp2
  go_ret
  exact ⟨rfl, ((Below.refl _ _).alloc (Nat.le_refl _) _).alloc (by simp) _⟩
def out7 (x : StL) (c : Int) : List Value := [.string (strOf x.k), .string (strOf x.t), .string (strOf x.f), .string (strOf x.o), .int .i64 x.n, .string (strOf x.b), .int .i64 c]
set_option maxRecDepth 100000 in
set_option maxHeartbeats 1000000 in
theorem eq_out4 (x : StL) (c : Int) (w : World) : Calls Tryz.prog 26 #[outV x c, outV x c] w fun e w' => e = .returned (.bool true) ∧ Below w.heap.size w w' := by
  have i1 := fun w => eq_st4 x w
  unfold stLV at i1
  have HK : Hid (∀ W, Below ((w.alloc (.cells (out7 x c).toArray 29)).alloc (.cells (out7 x c).toArray 29)).heap.size ((w.alloc (.cells (out7 x c).toArray 29)).alloc (.cells (out7 x c).toArray 29)) W → Arr W w.heap.size 29 (out7 x c) ∧ Arr W (w.heap.size + 1) 29 (out7 x c) ∧ Below w.heap.size w W) := Lib.hid (fun W h => by
    have h1 := below_one h
    refine ⟨(h1.block w.heap.size (by simp)).trans (Arr.fresh w 29 (out7 x c)), ?_, below_one h1⟩
    have h2 : Arr W (w.alloc (.cells (out7 x c).toArray 29)).heap.size 29 (out7 x c) := (h.block _ (by simp)).trans (Arr.fresh (w.alloc (.cells (out7 x c).toArray 29)) 29 (out7 x c))
    rw [World.size_alloc] at h2
    exact h2)
  unfold outV
  go_enter Tryz.func26, Tryz.ntmps26
  go_wp2_with (go_at_call 71; go_fit (i1 _); rintro e w1 ⟨rfl, hb⟩; obtain ⟨hA1, hA2, hB⟩ := HK.out _ hb; obtain ⟨b0, b1, b2, b3, b4, b5, b6, g0, g1, g2, g3, g4, g5, g6⟩ := arr_seven hA1; obtain ⟨d0, d1, d2, d3, d4, d5, d6, e0, e1, e2, e3, e4, e5, e6⟩ := arr_seven hA2)
  go_ret
  exact ⟨rfl, hB⟩
theorem two_outs {w w1 w2 W : World} {o1 o2 : Obj} (h1 : Below w.heap.size w w1) (h2 : Below (w1.alloc o1).heap.size (w1.alloc o1) w2) (h3 : Below (w2.alloc o2).heap.size (w2.alloc o2) W) : Below w.heap.size w W ∧ Below w.heap.size w (w1.alloc o1) ∧ Below w.heap.size w (w2.alloc o2) := by
  have a1 := h1.alloc h1.size o1
  have a2 := a1.trans (h2.mono a1.size)
  have a3 := a2.alloc a2.size o2
  exact ⟨a3.trans (h3.mono a3.size), a1, a3⟩
set_option maxRecDepth 100000 in
set_option maxHeartbeats 1000000 in
theorem sread_law (w : World) (a0 : ByteArray) (w0 : a0.size ≤ maxLen) (hm : MaxL w) (hp : TabP w) (hE : ErrV w) :
    Calls Tryz.prog 6 #[.string a0] w fun e w' => e = .returned (.bool true) ∧ Below w.heap.size w w' := by
  unfold maxLen at w0
  by_cases hbig : 1048576 < a0.size
  · clear hm hp hE
    go_enter Tryz.func6, Tryz.ntmps6
    go_wp2
    go_ret
    exact ⟨rfl, Below.refl _ _⟩
  · have i1 := fun W => spec_sread a0 W (by omega)
    have i2 := fun W hm hp hE => impl_sread a0 W (by omega) hm hp hE
    obtain ⟨x, c, hv⟩ := srV_form a0.data.toList
    rw [hv] at i1 i2
    have i3 := fun W => eq_out4 x c W
    unfold outV at i1 i2 i3
    have HM := Lib.hid (fun W (h : Below w.heap.size w W) => And.intro (hm.below h hm.pos) (And.intro (hp.below h) (hE.below h)))
    clear hm hp hE hv
    go_enter Tryz.func6, Tryz.ntmps6
    go_wp2_with (first
      | (go_at_call 15; go_fit (i1 _); rintro e w1 ⟨rfl, hb1⟩; have hq1 := fun o => hb1.alloc hb1.size o; have HQ1 := Lib.hid hq1; clear hq1)
      | (go_at_call 13; go_fit (i2 _ (HM.out _ (HQ1.out _)).1 (HM.out _ (HQ1.out _)).2.1 (HM.out _ (HQ1.out _)).2.2); rintro e w2 ⟨rfl, hb2⟩; have hk1 := (hb2.block w1.heap.size (by simp)).trans (Arr.fresh w1 29 (out7 x c)); obtain ⟨b0, b1, b2, b3, b4, b5, b6, g0, g1, g2, g3, g4, g5, g6⟩ := arr_seven hk1; have hz := arr_lt hk1)
      | (go_at_call 26; go_fit (i3 _); rintro e w3 ⟨rfl, hb3⟩))
    go_ret
    exact ⟨rfl, (two_outs hb1 hb2 hb3).1⟩
end Go.Proofs.YtlobaopbehhhiaaGreatDoor
