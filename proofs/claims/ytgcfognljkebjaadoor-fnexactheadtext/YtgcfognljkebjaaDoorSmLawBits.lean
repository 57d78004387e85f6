/- The small functions of the laws on heads and streams: their sizes, their copies. -/
import Derived.Test.YtgcfognljkebjaaDoorSmHead
import Derived.Test.YtgcfognljkebjaaDoorSmFrame
namespace Go.Proofs.YtgcfognljkebjaaDoor
set_option linter.unusedSimpArgs false
set_option linter.unusedVariables false
open Go.RowKit

set_option maxHeartbeats 1000000 in
theorem sz_hd (f o : ByteArray) (n left : Int) (w : World) (hf : f.size ≤ 9223372036854775807) (ho : o.size ≤ 9223372036854775807) (h0 : 0 ≤ left) (h1 : left ≤ 1048576) :
    Calls Tryd.prog 4 #[.agg #[.string f, .string o, .int .i64 n], .int .i64 left] w fun e w' =>
      (∃ z, e = .returned (.int .i64 z) ∧ (z = -1 ∨ 0 ≤ z ∧ z = left - f.size - o.size)) ∧ Below w.heap.size w w' := by
  by_cases k1 : left - f.size < 0
  · go_enter Tryd.func4, Tryd.ntmps4
    go_wp2
    all_goals (go_ret; exact ⟨⟨_, rfl, .inl rfl⟩, (Below.refl _ _).alloc (Nat.le_refl _) _⟩)
  by_cases k2 : left - f.size - o.size < 0
  · go_enter Tryd.func4, Tryd.ntmps4
    go_wp2
    all_goals (go_ret; exact ⟨⟨_, rfl, .inl rfl⟩, (Below.refl _ _).alloc (Nat.le_refl _) _⟩)
  go_enter Tryd.func4, Tryd.ntmps4
  go_wp2
  all_goals (go_ret; exact ⟨⟨_, rfl, .inr ⟨by omega, rfl⟩⟩, (Below.refl _ _).alloc (Nat.le_refl _) _⟩)
theorem to_hd (f o : ByteArray) (n : Int) (w : World) :
    Calls Tryd.prog 6 #[.agg #[.string f, .string o, .int .i64 n]] w fun e w' => e = .returned (.agg #[.string f, .string o, .int .i64 n]) ∧ ∃ o1 o2 o3, w' = ((w.alloc o1).alloc o2).alloc o3 := by
  go_enter Tryd.func6, Tryd.ntmps6
  go_wp2
  exact bodyPost_ret (v := .agg #[.string f, .string o, .int .i64 n]) (by simp [results, Tryd.results6, go_sem]) rfl ⟨rfl, _, _, _, rfl⟩
theorem box_seven5 {w w1 : World} {a b c d e f g : Value} {t : Nat} (h : Below (w.alloc (.cells #[a, b, c, d, e, f, g] t)).heap.size (w.alloc (.cells #[a, b, c, d, e, f, g] t)) w1) :
    w1.cell? ⟨w.heap.size, 0, none⟩ = some a ∧ w1.cell? ⟨w.heap.size, 1, none⟩ = some b ∧ w1.cell? ⟨w.heap.size, 2, none⟩ = some c ∧ w1.cell? ⟨w.heap.size, 3, none⟩ = some d ∧ w1.cell? ⟨w.heap.size, 4, none⟩ = some e ∧ w1.cell? ⟨w.heap.size, 5, none⟩ = some f ∧ w1.cell? ⟨w.heap.size, 6, none⟩ = some g := by
  have hA : Arr w1 w.heap.size t [a, b, c, d, e, f, g] := (h.block w.heap.size (by simp)).trans (Arr.fresh w t [a, b, c, d, e, f, g])
  exact ⟨hA.cell 0, hA.cell 1, hA.cell 2, hA.cell 3, hA.cell 4, hA.cell 5, hA.cell 6⟩
end Go.Proofs.YtgcfognljkebjaaDoor
