/- What PutText answers at every string, in the program and in the specification: putTextL. -/
import Derived.Test.YtnejnhfdinmicaaDoorNumWalks
import Derived.Test.YtnejnhfdinmicaaDoorJoinWalks
namespace Go.Proofs.YtnejnhfdinmicaaDoor
open Go.RowKit

def putTextL (s : ByteArray) : List UInt8 := if 20000 < s.size then [] else putL s.size ++ s.data.toList
theorem putTextL_big {s : ByteArray} (h : 20000 < s.size) : putTextL s = [] := by unfold putTextL; rw [if_pos h]
theorem putTextL_small {s : ByteArray} (h : ¬ 20000 < s.size) : putTextL s = putL s.size ++ s.data.toList := by unfold putTextL; rw [if_neg h]
theorem flat_two (a b : ByteArray) : flat [a, b] = a.data.toList ++ b.data.toList := by simp [flat]
theorem two_cells (w : World) (a b : ByteArray) (t : Nat) : ∀ j (h : j < [a, b].length), (w.alloc (.cells #[.string a, .string b] t)).cell? ⟨w.heap.size, j, none⟩ = some (.string [a, b][j]) := by
  intro j h
  rw [(Arr.fresh w t [.string a, .string b]).cell]
  match j, h with
  | 0, _ => rfl
  | 1, _ => rfl
theorem strOf_append (l m : List UInt8) : strOf (l ++ m) = strOf l ++ strOf m := by
  apply ByteArray.ext
  simp [strOf, ByteArray.data_append]
theorem putL_len {n : Int} (h1 : -9223372036854775808 ≤ n) (h2 : n ≤ 9223372036854775807) : (putL n).length ≤ 10 := vint_ten (zig_lt h1 h2)

set_option maxRecDepth 100000 in
set_option maxHeartbeats 800000 in
theorem spec_puttext (s : ByteArray) (w : World) (hs : s.size ≤ 9223372036854775807) :
    Calls Tryd.prog 12 #[.string s] w fun e w' => e = .returned (.string (strOf (putTextL s))) ∧ Below w.heap.size w w' := by
  by_cases h : 20000 < s.size
  · have HP := Lib.hid (putTextL_big h)
    go_enter Tryd.func12, Tryd.ntmps12
    go_wp2
    go_ret
    exact ⟨ret_str (by rw [HP.out]; rfl), Below.refl _ _⟩
  · have HP := Lib.hid (putTextL_small h)
    have hl := putL_len (n := s.size) (by omega) (by omega)
    have hadd := fun W => run_string_add_sum (P := Tryd.prog) W (strOf (putL s.size)) s (by rw [strOf_size]; omega)
    go_enter Tryd.func12, Tryd.ntmps12
    go_wp2_with (first
      | (go_at_call 8; refine (spec_putnum _ _ (by omega) (by omega)).mono ?_; rintro e w1 ⟨rfl, hb1⟩))
    go_ret
    exact ⟨ret_str (by rw [HP.out, strOf_append, strOf_toList]), hb1⟩

set_option maxRecDepth 100000 in
set_option maxHeartbeats 800000 in
theorem impl_puttext (s : ByteArray) (w : World) (hs : s.size ≤ 9223372036854775807) :
    Calls Tryd.prog 11 #[.string s] w fun e w' => e = .returned (.string (strOf (putTextL s))) ∧ Below w.heap.size w w' := by
  by_cases h : 20000 < s.size
  · have HP := Lib.hid (putTextL_big h)
    go_enter Tryd.func11, Tryd.ntmps11
    go_wp2
    go_ret
    exact ⟨ret_str (by rw [HP.out]; rfl), Below.refl _ _⟩
  · have HP := Lib.hid (putTextL_small h)
    have hl := putL_len (n := s.size) (by omega) (by omega)
    go_enter Tryd.func11, Tryd.ntmps11
    go_wp2_with (first
      | (go_at_call 7; refine (impl_putnum _ _ (by omega) (by omega)).mono ?_; rintro e w1 ⟨rfl, hb1⟩))
    have hj := impl_joined w1.heap.size 2 [strOf (putL s.size), s] (w1.alloc (.cells #[.string (strOf (putL s.size)), .string s] 9)) (by simp) (two_cells w1 _ _ _) (by simp) (by rw [flat_two, List.length_append, strOf_data, size_data]; omega)
    refine hj.mono ?_
    rintro e w2 ⟨rfl, hb2⟩
    go_wp2
    go_ret
    exact ⟨ret_str (by rw [HP.out, flat_two, strOf_data]), (hb1.alloc hb1.size _).trans (hb2.mono (by have := hb1.size; simp; omega))⟩
end Go.Proofs.YtnejnhfdinmicaaDoor
