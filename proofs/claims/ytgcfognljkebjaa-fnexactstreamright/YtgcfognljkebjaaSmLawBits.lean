/- The small functions of the laws on heads and streams: their sizes, their copies. -/
import Derived.Test.YtgcfognljkebjaaSmHead
import Derived.Test.YtgcfognljkebjaaSmFrame
namespace Go.Proofs.Ytgcfognljkebjaa
set_option linter.unusedSimpArgs false
set_option linter.unusedVariables false
open Go.RowKit

set_option maxHeartbeats 1000000 in
theorem sz_hd (f o : ByteArray) (n left : Int) (w : World) (hf : f.size ≤ 9223372036854775807) (ho : o.size ≤ 9223372036854775807) (h0 : 0 ≤ left) (h1 : left ≤ 1048576) :
    Calls Try.prog 8 #[.agg #[.string f, .string o, .int .i64 n], .int .i64 left] w fun e w' =>
      (∃ z, e = .returned (.int .i64 z) ∧ (z = -1 ∨ 0 ≤ z ∧ z = left - f.size - o.size)) ∧ Below w.heap.size w w' := by
  by_cases k1 : left - f.size < 0
  · go_enter Try.func8, Try.ntmps8
    go_wp2
    all_goals (go_ret; exact ⟨⟨_, rfl, .inl rfl⟩, (Below.refl _ _).alloc (Nat.le_refl _) _⟩)
  by_cases k2 : left - f.size - o.size < 0
  · go_enter Try.func8, Try.ntmps8
    go_wp2
    all_goals (go_ret; exact ⟨⟨_, rfl, .inl rfl⟩, (Below.refl _ _).alloc (Nat.le_refl _) _⟩)
  go_enter Try.func8, Try.ntmps8
  go_wp2
  all_goals (go_ret; exact ⟨⟨_, rfl, .inr ⟨by omega, rfl⟩⟩, (Below.refl _ _).alloc (Nat.le_refl _) _⟩)
theorem to_hd (f o : ByteArray) (n : Int) (w : World) :
    Calls Try.prog 11 #[.agg #[.string f, .string o, .int .i64 n]] w fun e w' => e = .returned (.agg #[.string f, .string o, .int .i64 n]) ∧ ∃ o1 o2 o3, w' = ((w.alloc o1).alloc o2).alloc o3 := by
  go_enter Try.func11, Try.ntmps11
  go_wp2
  exact bodyPost_ret (v := .agg #[.string f, .string o, .int .i64 n]) (by simp [results, Try.results11, go_sem]) rfl ⟨rfl, _, _, _, rfl⟩
theorem box_seven5 {w w1 : World} {a b c d e f g : Value} {t : Nat} (h : Below (w.alloc (.cells #[a, b, c, d, e, f, g] t)).heap.size (w.alloc (.cells #[a, b, c, d, e, f, g] t)) w1) :
    w1.cell? ⟨w.heap.size, 0, none⟩ = some a ∧ w1.cell? ⟨w.heap.size, 1, none⟩ = some b ∧ w1.cell? ⟨w.heap.size, 2, none⟩ = some c ∧ w1.cell? ⟨w.heap.size, 3, none⟩ = some d ∧ w1.cell? ⟨w.heap.size, 4, none⟩ = some e ∧ w1.cell? ⟨w.heap.size, 5, none⟩ = some f ∧ w1.cell? ⟨w.heap.size, 6, none⟩ = some g := by
  have hA : Arr w1 w.heap.size t [a, b, c, d, e, f, g] := (h.block w.heap.size (by simp)).trans (Arr.fresh w t [a, b, c, d, e, f, g])
  exact ⟨hA.cell 0, hA.cell 1, hA.cell 2, hA.cell 3, hA.cell 4, hA.cell 5, hA.cell 6⟩
set_option maxHeartbeats 1000000 in
theorem sz_sm (f o : ByteArray) (n : Int) (r : ByteArray) (op cl de : Bool) (left : Int) (w : World) (hf : f.size ≤ 9223372036854775807) (ho : o.size ≤ 9223372036854775807) (hr : r.size ≤ 9223372036854775807) (h0 : 0 ≤ left) (h1 : left ≤ 1048576) :
    Calls Try.prog 4 #[.agg #[.string f, .string o, .int .i64 n, .string r, .bool op, .bool cl, .bool de], .int .i64 left] w fun e w' =>
      (∃ z, e = .returned (.int .i64 z) ∧ (z = -1 ∨ 0 ≤ z ∧ z = left - f.size - o.size - r.size)) ∧ Below w.heap.size w w' := by
  have i1 := fun w => sz_hd f o n left w hf ho h0 h1
  have HK := Lib.hid (fun w1 (h : Below (w.alloc (.cells #[.string f, .string o, .int .i64 n, .string r, .bool op, .bool cl, .bool de] 25)).heap.size (w.alloc (.cells #[.string f, .string o, .int .i64 n, .string r, .bool op, .bool cl, .bool de] 25)) w1) => box_seven5 h)
  go_enter Try.func4, Try.ntmps4
  go_wp2_with (go_at_call 8; go_fit (i1 _); rintro e w1 ⟨⟨z, rfl, hz⟩, hb⟩; obtain ⟨c0, c1, c2, c3, c4, c5, c6⟩ := HK.out _ hb; have hz1 : z ≤ 1048576 := (by omega); have hz2 : -1 ≤ z := (by omega); have HZ := Lib.hid hz; clear hz)
  all_goals
    have hz := HZ.out
    go_ret
    first
      | exact ⟨⟨_, rfl, .inl rfl⟩, below_one hb⟩
      | exact ⟨⟨_, rfl, .inr ⟨by omega, by omega⟩⟩, below_one hb⟩
set_option maxHeartbeats 1000000 in
theorem to_sm (f o : ByteArray) (n : Int) (r : ByteArray) (op cl de : Bool) (w : World) :
    Calls Try.prog 6 #[.agg #[.string f, .string o, .int .i64 n, .string r, .bool op, .bool cl, .bool de]] w fun e w' => e = .returned (.agg #[.string f, .string o, .int .i64 n, .string r, .bool op, .bool cl, .bool de]) ∧ Below w.heap.size w w' := by
  have i1 := fun w => to_hd f o n w
  go_enter Try.func6, Try.ntmps6
  go_wp2_with (go_at_call 11; go_fit (i1 _); rintro e w1 ⟨rfl, o1, o2, o3, rfl⟩)
  exact bodyPost_ret (v := .agg #[.string f, .string o, .int .i64 n, .string r, .bool op, .bool cl, .bool de]) (by simp [results, Try.results6, go_sem]) rfl ⟨rfl, ((((((Below.refl _ _).alloc (Nat.le_refl _) _).alloc (by simp) _).alloc (by simp; omega) _).alloc (by simp; omega) _).alloc (by simp; omega) _).alloc (by simp; omega) _⟩
end Go.Proofs.Ytgcfognljkebjaa
