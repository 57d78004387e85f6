/- FnExactHeadText's walk. -/
import Derived.Test.YtgcfognljkebjaaDoorSmHeadText
import Derived.Test.YtgcfognljkebjaaDoorSmLawBits
namespace Go.Proofs.YtgcfognljkebjaaDoor
set_option linter.unusedSimpArgs false
set_option linter.unusedVariables false
open Go.RowKit

theorem to_hdB {f o : ByteArray} {n : Int} {w w' : World} {e : Ending} (h : e = .returned (.agg #[.string f, .string o, .int .i64 n]) ∧ ∃ o1 o2 o3, w' = ((w.alloc o1).alloc o2).alloc o3) : e = .returned (.agg #[.string f, .string o, .int .i64 n]) ∧ Below w.heap.size w w' := by
  obtain ⟨he, o1, o2, o3, rfl⟩ := h
  exact ⟨he, (((Below.refl _ _).alloc (Nat.le_refl _) _).alloc (by simp) _).alloc (by simp; omega) _⟩
set_option maxRecDepth 100000 in
set_option maxHeartbeats 2000000 in
theorem hdtext_law (w : World) (f o : ByteArray) (n : Int) (x0 : hdW f o n) (hm : MaxL w) (hp : TabP w) :
    Calls Tryd.prog 3 #[.agg #[.string f, .string o, .int .i64 n]] w fun e w' => e = .returned (.bool true) ∧ Below w.heap.size w w' := by
  obtain ⟨xf, xo, xn⟩ := x0
  have HK := Lib.hid (fun w1 (h : Below (w.alloc (.cells #[.string f, .string o, .int .i64 n] 23)).heap.size (w.alloc (.cells #[.string f, .string o, .int .i64 n] 23)) w1) => (box_three h).1)
  have HM := Lib.hid (fun w1 (h : Below (w.alloc (.cells #[.string f, .string o, .int .i64 n] 23)).heap.size (w.alloc (.cells #[.string f, .string o, .int .i64 n] 23)) w1) => hm.below (below_one h) hm.pos)
  have HT := Lib.hid (fun w1 (h : Below (w.alloc (.cells #[.string f, .string o, .int .i64 n] 23)).heap.size (w.alloc (.cells #[.string f, .string o, .int .i64 n] 23)) w1) => hp.below (below_one h))
  have i1 := fun w => spec_hdtext f o n w xf xo
  have i2 := fun w => impl_hdtext f o n w xf xo
  obtain ⟨v, hv⟩ : ∃ v, hdT f o n = v := ⟨_, rfl⟩
  rw [hv] at i1 i2
  have i3 := fun w => (to_hd f o n w).mono fun e w' h => to_hdB h
  clear hv hm hp xn
  unfold maxLen at xf xo
  go_enter Tryd.func3, Tryd.ntmps3
  go_wp2_with (first
    | (go_at_call 4; go_fit (sz_hd f o n _ _ xf xo (by omega) (by omega)); rintro e w1 ⟨⟨z, rfl, hz⟩, hb⟩; obtain ⟨c0, c1, c2⟩ := HK.out _ hb)
    | (go_at_call 6; go_fit (i3 _); rintro e w2 ⟨rfl, hb2⟩; replace hb := hb.trans (hb2.mono hb.size); clear hb2; obtain ⟨c0, c1, c2⟩ := HK.out _ hb)
    | (go_at_call 5; go_fit (i1 _); rintro e w2 ⟨rfl, hb2⟩; replace hb := hb.trans (hb2.mono hb.size); clear hb2; obtain ⟨c0, c1, c2⟩ := HK.out _ hb)
    | (go_at_call 7; go_fit (i2 _ (HM.out _ hb) (HT.out _ hb)); rintro e w2 ⟨rfl, hb2⟩; replace hb := hb.trans (hb2.mono hb.size); clear hb2; obtain ⟨c0, c1, c2⟩ := HK.out _ hb))
  all_goals
    go_ret
    exact ⟨rfl, below_one hb⟩
end Go.Proofs.YtgcfognljkebjaaDoor
