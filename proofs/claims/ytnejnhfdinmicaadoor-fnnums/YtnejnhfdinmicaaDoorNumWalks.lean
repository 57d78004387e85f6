/- What PutNum answers at every number, in the program and in the specification: the bytes putL n. -/
import Derived.Test.YtnejnhfdinmicaaDoorChecked
import Derived.Test.YtnejnhfdinmicaaDoorMath
import Derived.WalkKit
import Derived.ProofKit
import Derived.OpenShut
import Derived.Lib.Hide
namespace Go.Proofs.YtnejnhfdinmicaaDoor
open Go.RowKit

theorem spec_fold (n : Int) (w : World) (h1 : -9223372036854775808 ≤ n) (h2 : n ≤ 9223372036854775807) :
    Calls Tryd.prog 21 #[.int .i64 n] w fun e w' => e = .returned (.int .u64 (zig n)) ∧ w = w' := by
  by_cases h : n < 0
  · go_enter Tryd.func21, Tryd.ntmps21
    go_wp2
    go_ret
    exact ⟨ret_int (by unfold zig; rw [if_neg (by omega)]; omega), rfl⟩
  · go_enter Tryd.func21, Tryd.ntmps21
    go_wp2
    go_ret
    exact ⟨ret_int (by unfold zig; rw [if_pos (by omega)]; omega), rfl⟩

theorem impl_zigzag (n : Int) (w : World) (h1 : -9223372036854775808 ≤ n) (h2 : n ≤ 9223372036854775807) :
    Calls Tryd.prog 20 #[.int .i64 n] w fun e w' => e = .returned (.int .u64 (zig n)) ∧ w = w' := by
  by_cases h : n < 0
  · go_enter Tryd.func20, Tryd.ntmps20
    go_wp2

    go_ret
    exact ⟨ret_int (zig_xor_neg h1 h), rfl⟩
  · go_enter Tryd.func20, Tryd.ntmps20
    go_wp2
    go_ret
    exact ⟨ret_int (zig_xor_pos (by omega) h2), rfl⟩

theorem info_u8 : (Tryd.prog.info? 5).map (fun i => (i.zero, i.size, i.bytes)) = some (some (.int .u8 0), 1, 1) := by kernel_rfl

theorem own_empty (w : World) (e : TypeId) : (w.alloc (.cells #[] e)).ownsRow w.heap.size e 1 (.slice (some ⟨w.heap.size, 0, none⟩) 0 0) 0 [] :=
  ⟨by simp, .inr ⟨w.heap.size, 0, #[], rfl, Nat.le_refl _, heap_alloc_new w _, Nat.le_refl _, Nat.zero_le _, by simp, by simp⟩⟩

set_option maxRecDepth 100000 in
set_option maxHeartbeats 800000 in
theorem spec_putnum (n : Int) (w : World) (h1 : -9223372036854775808 ≤ n) (h2 : n ≤ 9223372036854775807) :
    Calls Tryd.prog 8 #[.int .i64 n] w fun e w' => e = .returned (.string (strOf (putL n))) ∧ Below w.heap.size w w' := by
  obtain ⟨i0, hi, hz0, hz1, hz2⟩ := info_parts info_u8
  have HZ := Lib.hid (zig_lt h1 h2)
  have HT := Lib.hid (vint_ten (zig_lt h1 h2))
  go_enter Tryd.func8, Tryd.ntmps8
  go_wp2_with (first
    | (go_at_call 21; refine (spec_fold _ _ h1 h2).mono ?_; rintro e w' ⟨rfl, rfl⟩))
  go_loopw [3, 4] (fun u v wr => ∃ (m : Nat) (acc : List UInt8), u = .int .u64 m ∧ (m : Int) ≤ 18446744073709551615 ∧ acc ++ vint m = putL n ∧ wr.ownsRow w.heap.size 5 1 v acc.length (acc.map byteV) ∧ Below w.heap.size w wr)
    (fun u _ _ => (intOf u).toNat)
  case atStart => exact ⟨zig n, [], rfl, by have := HZ.out; omega, rfl, own_empty _ _, (Below.refl _ _).alloc (Nat.le_refl _) _⟩
  case round =>
    obtain ⟨m, acc, rfl, hm, hacc, hown, hbel⟩ := hrel
    have hlen : acc.length ≤ 10 := by have := congrArg List.length hacc; have := HT.out; unfold putL at *; simp at *; omega
    have HA := Lib.hid hacc
    clear hacc HT HZ
    by_cases hbig : 128 ≤ m
    · go_wp2_with (first
        | (at_builtin; refine wpList_append_own _ rfl _ _ 22 rfl w.heap.size 5 i0 (.int .u8 0) 1 1 Tryd.underlying22 hi hz0 hz1 hz2 rfl (by decide) _ _ _ rfl (hown.alloc _) ⟨wr.heap.size, 0, none⟩ 1 1 [.int .u8 ((m : Int) % 128 + 128)] rfl rfl ?c1 ?c2 ?c3 ?c4 ?c5 ?_))
      case c1 => exact one_new _ _ _
      case c2 => exact one_cell _ _
      case c3 => unfold maxLen; omega
      case c4 => omega
      case c5 => have := hbel.size; simp; omega
      intro v' w1 hown' hgrow _
      have R := byte_step hown hbel hbel.size hown' hgrow (byteV_ofNat (n := m % 128 + 128) (by omega) (by omega))
      clear hown' hgrow hown hbel
      go_wp2
      go_roundw
      case rel => exact ⟨m / 128, acc ++ [UInt8.ofNat (m % 128 + 128)], by go_num, by omega, by rw [List.append_assoc, List.singleton_append, ← vint_big hbig]; exact HA.out, R.1, R.2⟩
      case measure => simp [intOf]; omega
    · go_wp2_with (first
        | (at_builtin; refine wpList_append_own _ rfl _ _ 22 rfl w.heap.size 5 i0 (.int .u8 0) 1 1 Tryd.underlying22 hi hz0 hz1 hz2 rfl (by decide) _ _ _ rfl (hown.alloc _) ⟨wr.heap.size, 0, none⟩ 1 1 [.int .u8 (m : Int)] rfl rfl ?d1 ?d2 ?d3 ?d4 ?d5 ?_))
      case d1 => exact one_new _ _ _
      case d2 => exact one_cell _ _
      case d3 => unfold maxLen; omega
      case d4 => omega
      case d5 => have := hbel.size; simp; omega
      intro v' w1 hown' hgrow _
      have R := byte_step hown hbel hbel.size hown' hgrow (byteV_ofNat (n := m) (by omega) rfl)
      clear hown' hgrow hown hbel
      have hcv := run_string_own (P := Tryd.prog) w1 22 9 5 _ v' _ _ R.1 Tryd.underlying22 Tryd.underlying5 Tryd.underlying9
      go_wp2
      go_ret
      refine ⟨ret_str (congrArg strOf ?_), R.2⟩
      rw [← HA.out, vint_small (by omega)]

theorem slice10 (a : Addr) (k : Nat) (hk : k + 1 ≤ 10) (W : World) : (Instr.sliceAt 40 (.pointer (some a)) none (some (.int .i64 ((k : Int) + 1))) none).run Tryd.prog W = .ok (.slice (some a) (k + 1) 10) W := by
  have hl : Tryd.prog.arrayLen 40 = 10 := by kernel_rfl
  have he : Tryd.prog.elem 40 = 5 := by kernel_rfl
  have ht : Tryd.prog.underlying 40 = some (.array (Tryd.prog.arrayLen 40) (Tryd.prog.elem 40)) := by rw [hl, he]; exact Tryd.underlying40
  obtain ⟨i0, hi, hz0, hz1, hz2⟩ := info_parts info_u8
  rw [run_sliceAt_array_h (P := Tryd.prog) W 40 a ht .i64 ((k : Int) + 1) (by omega) (by rw [hl]; omega), he, hl]
  have e : ((k : Int) + 1).toNat = k + 1 := by omega
  simp [sizeOf, typeInfo, hi, slicedAt, e, Addr.add]

set_option maxRecDepth 100000 in
set_option maxHeartbeats 800000 in
theorem impl_putnum (n : Int) (w : World) (h1 : -9223372036854775808 ≤ n) (h2 : n ≤ 9223372036854775807) :
    Calls Tryd.prog 7 #[.int .i64 n] w fun e w' => e = .returned (.string (strOf (putL n))) ∧ Below w.heap.size w w' := by
  have HZ := Lib.hid (zig_lt h1 h2)
  have HT := Lib.hid (vint_ten (zig_lt h1 h2))
  go_enter Tryd.func7, Tryd.ntmps7
  go_wp2_with (first
    | (go_at_call 20; refine (impl_zigzag _ _ h1 h2).mono ?_; rintro e w' ⟨rfl, rfl⟩))
  go_loopw [4, 5] (fun u s wr => ∃ (m : Nat) (acc : List UInt8) (cs : List Value), u = .int .u64 m ∧ s = .int .i64 (acc.length : Int) ∧ (m : Int) ≤ 18446744073709551615 ∧ acc ++ vint m = putL n ∧ Arr wr w.heap.size 40 cs ∧ cs.length = 10 ∧ Heads cs acc ∧ Below w.heap.size w wr)
    (fun u _ _ => (intOf u).toNat)
  case atStart => exact ⟨zig n, [], List.replicate 10 (.int .u8 0), rfl, rfl, by have := HZ.out; omega, rfl, Arr.fresh _ _ _, rfl, rfl, (Below.refl _ _).alloc (Nat.le_refl _) _⟩
  case round =>
    obtain ⟨m, acc, cs, rfl, rfl, hm, hacc, hA, hcs, hH, hbel⟩ := hrel
    have hlen : acc.length < 10 := by have := congrArg List.length hacc; have := HT.out; have := vint_pos m; unfold putL at *; simp at *; omega
    have HA := Lib.hid hacc
    have hx : acc.length < cs.length := by omega
    have hcell := hA.cell acc.length
    rw [List.getElem?_eq_getElem hx] at hcell
    have hfree := hA.free acc.length
    have HArr := Lib.hid hA
    have HH := Lib.hid hH
    clear hacc HT HZ hA hH
    by_cases hbig : 128 ≤ m
    · go_wp2
      go_roundw
      case rel => exact ⟨m / 128, acc ++ [UInt8.ofNat (m % 128 + 128)], _, by go_num, by simp, by omega, by rw [List.append_assoc, List.singleton_append, ← vint_big hbig]; exact HA.out, HArr.out.put _ _, by simpa using hcs, HH.out.push hx (by rw [low_or m (by omega)]; exact byteV_ofNat (by omega) rfl), hbel.setCell (Nat.le_refl _) _⟩
      case measure => simp [intOf]; omega
    · have hA2 := HArr.out.put acc.length (.int .u8 (m : Int))
      have hH2 := HH.out.push hx (byteV_ofNat (n := m) (by omega) rfl)
      have hcv := run_string_arr (P := Tryd.prog) _ 22 9 5 _ _ 10 (acc.length + 1) _ _ hA2 hH2 (by simp) Tryd.underlying22 Tryd.underlying5 Tryd.underlying9
      clear hA2 hH2
      have hsl := slice10 ⟨w.heap.size, 0, none⟩ acc.length (by omega)
      go_wp2
      go_ret
      refine ⟨ret_str (congrArg strOf ?_), hbel.setCell (Nat.le_refl _) _⟩
      rw [← HA.out, vint_small (by omega)]
end Go.Proofs.YtnejnhfdinmicaaDoor
