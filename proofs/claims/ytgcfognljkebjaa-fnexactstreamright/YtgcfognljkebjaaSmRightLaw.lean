/- FnExactStreamRight's walk; the small functions of the laws on heads and streams. -/
import Derived.Test.YtgcfognljkebjaaSmRight
import Derived.Test.YtgcfognljkebjaaSmLawBits
namespace Go.Proofs.Ytgcfognljkebjaa
set_option linter.unusedSimpArgs false
set_option linter.unusedVariables false
open Go.RowKit

set_option maxRecDepth 100000 in
set_option maxHeartbeats 2000000 in
theorem smright_law (w : World) (f o : ByteArray) (n : Int) (r : ByteArray) (op cl de : Bool) (x0 : smW f o n r) (hm : MaxL w) :
    Calls Try.prog 3 #[.agg #[.string f, .string o, .int .i64 n, .string r, .bool op, .bool cl, .bool de]] w fun e w' => e = .returned (.bool true) ∧ Below w.heap.size w w' := by
  obtain ⟨xf, xo, xn, xr⟩ := x0
  have HK := Lib.hid (fun w1 (h : Below (w.alloc (.cells #[.string f, .string o, .int .i64 n, .string r, .bool op, .bool cl, .bool de] 25)).heap.size (w.alloc (.cells #[.string f, .string o, .int .i64 n, .string r, .bool op, .bool cl, .bool de] 25)) w1) => box_seven h)
  have HM := Lib.hid (fun w1 (h : Below (w.alloc (.cells #[.string f, .string o, .int .i64 n, .string r, .bool op, .bool cl, .bool de] 25)).heap.size (w.alloc (.cells #[.string f, .string o, .int .i64 n, .string r, .bool op, .bool cl, .bool de] 25)) w1) => hm.below (below_one h) hm.pos)
  have i1 := fun w => spec_smright f o n r op cl de w xf xo xr
  have i2 := fun w => impl_smright f o n r op cl de w xf xo xr
  obtain ⟨v, hv⟩ : ∃ v, smB f o n r op cl de = v := ⟨_, rfl⟩
  rw [hv] at i1 i2
  clear hv hm xn
  unfold maxLen at xf xo xr
  go_enter Try.func3, Try.ntmps3
  go_wp2_with (first
    | (go_at_call 4; go_fit (sz_sm f o n r op cl de _ _ xf xo xr (by omega) (by omega)); rintro e w1 ⟨⟨z, rfl, hz⟩, hb⟩; obtain ⟨c0, c1, c2, c3, c4, c5, c6⟩ := HK.out _ hb)
    | (go_at_call 6; go_fit (to_sm f o n r op cl de _); rintro e w2 ⟨rfl, hb2⟩; replace hb := hb.trans (hb2.mono hb.size); clear hb2; obtain ⟨c0, c1, c2, c3, c4, c5, c6⟩ := HK.out _ hb)
    | (go_at_call 5; go_fit (i1 _); rintro e w2 ⟨rfl, hb2⟩; replace hb := hb.trans (hb2.mono hb.size); clear hb2; obtain ⟨c0, c1, c2, c3, c4, c5, c6⟩ := HK.out _ hb)
    | (go_at_call 7; go_fit (i2 _ (HM.out _ hb)); rintro e w2 ⟨rfl, hb2⟩; replace hb := hb.trans (hb2.mono hb.size); clear hb2; obtain ⟨c0, c1, c2, c3, c4, c5, c6⟩ := HK.out _ hb))
  all_goals
    go_ret
    exact ⟨rfl, below_one hb⟩
end Go.Proofs.Ytgcfognljkebjaa
