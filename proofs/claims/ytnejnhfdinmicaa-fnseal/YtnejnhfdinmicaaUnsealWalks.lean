/- What Unseal answers at every string, in the program and in the specification. -/
import Derived.Test.YtnejnhfdinmicaaSealWalks
import Derived.Deep.QuietTactic
import Derived.BigQuiet
import Derived.IntWalk
import Derived.Deep.RegionHeld3
namespace Go.Proofs.Ytnejnhfdinmicaa
open Go.RowKit

/-- All but the last four bytes. -/
def frontOf (s : ByteArray) : ByteArray := s.extract 0 (s.size - 4)
def backOf (s : ByteArray) : ByteArray := s.extract (s.size - 4) s.size

theorem three_kept_drew {w w1 : World} {a b c : Value} {t : Nat} (h : Below (w.alloc (.cells #[a, b, c] t)).drew.heap.size (w.alloc (.cells #[a, b, c] t)).drew w1) :
    (w1.cell? ⟨w.heap.size, 0, none⟩ = some a ∧ w1.cell? ⟨w.heap.size, 1, none⟩ = some b ∧ w1.cell? ⟨w.heap.size, 2, none⟩ = some c) ∧
    (w1.frozen? ⟨w.heap.size, 0, none⟩ = false ∧ w1.frozen? ⟨w.heap.size, 1, none⟩ = false ∧ w1.frozen? ⟨w.heap.size, 2, none⟩ = false) ∧ w.heap.size < w1.heap.size :=
  three_kept (w := w) (a := a) (b := b) (c := c) (t := t) ⟨h.os, h.tape, h.output, h.size, h.block⟩
theorem below_over {w w1 : World} {o : Obj} (h : Below (w.alloc o).drew.heap.size (w.alloc o).drew w1) : Below w.heap.size w w1 :=
  ((Below.refl _ _).alloc (Nat.le_refl _) o).drew.trans (h.mono (by simp))
theorem toList_same {a b : ByteArray} (h : a = b) : (a.toList == b.toList) = true := by subst h; simp
theorem toList_other {a b : ByteArray} (h : a ≠ b) : (a.toList == b.toList) = false := by
  rw [ByteArray.toList_eq, ByteArray.toList_eq]
  exact beq_eq_false_iff_ne.2 (fun e => h (WideShapes.bytes_inj e))

set_option maxRecDepth 100000 in
set_option maxHeartbeats 1000000 in
theorem impl_unseal_bad (s : ByteArray) (w : World) (h1 : s.size ≤ 20000) (h2 : 4 ≤ s.size) (hne : backOf s ≠ strOf (crcL (frontOf s))) :
    Calls Try.prog 15 #[.string s] w fun e w' => e = .returned (textOut ⟨#[]⟩ 0 5) ∧ Below w.heap.size w w' := by
  have htn : ((s.size : Int) - 4).toNat = s.size - 4 := by omega
  have hte : ((s.extract (s.size - 4) s.size).toList == (strOf (crcL (s.extract 0 (s.size - 4)))).toList) = false := toList_other hne
  have hle := extract_le s 0 (s.size - 4) 20000 h1
  have hs0 : 0 ≤ (s.size : Int) - 4 := by omega
  have hs1 : (s.size : Int) - 4 ≤ (s.size : Int) := by omega
  go_enter Try.func15, Try.ntmps15
  go_wp2
  go_region_held3 (fun _ => True) (exact trivial) (first | (go_at_call 34; ((with_reducible refine (impl_crctext _ _ hle).mono ?_); rintro e w1 ⟨rfl, hb1⟩)))
  all_goals
    obtain ⟨⟨c0, c1, c2⟩, ⟨f0, f1, f2⟩, hz⟩ := three_kept_drew hb1
    have HB := Lib.hid (below_over hb1)
    clear hb1
    go_wp2
    refine bodyPost_ret (v := textOut ⟨#[]⟩ 0 5) (by simp [results, Try.results15, go_sem, textOut, c0, c1, c2, hz]) rfl ⟨rfl, ?_⟩
    exact ((HB.out.setCell (Nat.le_refl _) _).setCell (Nat.le_refl _) _).setCell (Nat.le_refl _) _

set_option maxRecDepth 100000 in
set_option maxHeartbeats 1000000 in
theorem impl_unseal_good (s : ByteArray) (w : World) (h1 : s.size ≤ 20000) (h2 : 4 ≤ s.size) (heq : backOf s = strOf (crcL (frontOf s))) :
    Calls Try.prog 15 #[.string s] w fun e w' => e = .returned (textOut (frontOf s) 0 0) ∧ Below w.heap.size w w' := by
  have htn : ((s.size : Int) - 4).toNat = s.size - 4 := by omega
  have hte : ((s.extract (s.size - 4) s.size).toList == (strOf (crcL (s.extract 0 (s.size - 4)))).toList) = true := toList_same heq
  clear heq
  have hle := extract_le s 0 (s.size - 4) 20000 h1
  have hs0 : 0 ≤ (s.size : Int) - 4 := by omega
  have hs1 : (s.size : Int) - 4 ≤ (s.size : Int) := by omega
  go_enter Try.func15, Try.ntmps15
  go_wp2
  go_region_held3 (fun _ => True) (exact trivial) (first | (go_at_call 34; ((with_reducible refine (impl_crctext _ _ hle).mono ?_); rintro e w1 ⟨rfl, hb1⟩)))
  all_goals
    obtain ⟨⟨c0, c1, c2⟩, ⟨f0, f1, f2⟩, hz⟩ := three_kept_drew hb1
    have HB := Lib.hid (below_over hb1)
    clear hb1
    go_wp2_with (go_at_call 33; refine (impl_joined w1.heap.size 1 [s.extract 0 (s.size - 4)] (w1.alloc (.cells #[.string (s.extract 0 (s.size - 4))] 9)) (by simp) (one_cells w1 _ _) (by simp) (by rw [flat_one, size_data]; exact extract_le s _ _ _ (by omega))).mono ?_; rintro e w2 ⟨rfl, hb2⟩; rw [joined_one]; have d0 := (cell_on hb2 hz 0).trans c0; have d1 := (cell_on hb2 hz 1).trans c1; have d2 := (cell_on hb2 hz 2).trans c2; have g0 := (frozen_on hb2 hz 0).trans f0; have g1 := (frozen_on hb2 hz 1).trans f1; have g2 := (frozen_on hb2 hz 2).trans f2; have hz2 := Nat.lt_of_lt_of_le hz (Nat.le_trans (by simp) hb2.size))
    refine bodyPost_ret (v := textOut (frontOf s) 0 0) (by simp [results, Try.results15, go_sem, textOut, d0, d1, d2, hz2, frontOf]) rfl ⟨rfl, ?_⟩
    exact ((((HB.out.alloc HB.out.size _).trans (hb2.mono (by have := HB.out.size; simp; omega))).setCell (Nat.le_refl _) _).setCell (Nat.le_refl _) _).setCell (Nat.le_refl _) _

/-- What Unseal answers. -/
def unsealV (s : ByteArray) : Value := if 20000 < s.size then textOut ⟨#[]⟩ 0 2 else if s.size < 4 then textOut ⟨#[]⟩ 0 4 else if backOf s = strOf (crcL (frontOf s)) then textOut (frontOf s) 0 0 else textOut ⟨#[]⟩ 0 5

set_option maxRecDepth 100000 in
set_option maxHeartbeats 1000000 in
theorem impl_unseal (s : ByteArray) (w : World) (hs : s.size ≤ 9223372036854775807) :
    Calls Try.prog 15 #[.string s] w fun e w' => e = .returned (unsealV s) ∧ Below w.heap.size w w' := by
  unfold unsealV
  by_cases h1 : 20000 < s.size
  · rw [if_pos h1]
    go_enter Try.func15, Try.ntmps15
    go_wp2
    exact bodyPost_ret (v := textOut ⟨#[]⟩ 0 2) (by simp [results, Try.results15, go_sem, textOut]) rfl ⟨rfl, (Below.refl _ _).alloc (Nat.le_refl _) _⟩
  · rw [if_neg h1]
    by_cases h2 : s.size < 4
    · rw [if_pos h2]
      go_enter Try.func15, Try.ntmps15
      go_wp2
      exact bodyPost_ret (v := textOut ⟨#[]⟩ 0 4) (by simp [results, Try.results15, go_sem, textOut]) rfl ⟨rfl, (Below.refl _ _).alloc (Nat.le_refl _) _⟩
    · rw [if_neg h2]
      by_cases h3 : backOf s = strOf (crcL (frontOf s))
      · rw [if_pos h3]
        exact impl_unseal_good s w (by omega) (by omega) h3
      · rw [if_neg h3]
        exact impl_unseal_bad s w (by omega) (by omega) h3

/-- The CRC of a string. -/
def crcZ (s : ByteArray) : Nat := crcOf 0 s.data.toList
theorem crcZ_le (s : ByteArray) : ((crcZ s : Nat) : Int) ≤ 4294967295 := crc_le s
theorem spec_crc0 (s : ByteArray) (w : World) (hs : s.size ≤ 9223372036854775807) :
    Calls Try.prog 36 #[.int .i64 0, .string s] w fun e w' => e = .returned (.int .i64 (crcZ s : Nat)) ∧ w = w' := spec_l01crc 0 s w (by omega) hs
theorem spec_four_crc (s : ByteArray) (w : World) :
    Calls Try.prog 35 #[.int .i64 (crcZ s : Nat)] w fun e w' => e = .returned (.string (strOf (crcL s))) ∧ Below w.heap.size w w' := spec_four (crcZ s) w (crc_le s)

set_option maxRecDepth 100000 in
set_option maxHeartbeats 1000000 in
theorem spec_unseal_bad (s : ByteArray) (w : World) (h1 : s.size ≤ 20000) (h2 : 4 ≤ s.size) (hne : backOf s ≠ strOf (crcL (frontOf s))) :
    Calls Try.prog 27 #[.string s] w fun e w' => e = .returned (textOut ⟨#[]⟩ 0 5) ∧ Below w.heap.size w w' := by
  have htn : ((s.size : Int) - 4).toNat = s.size - 4 := by omega
  have hte : ((strOf (crcL (s.extract 0 (s.size - 4)))).toList == (s.extract (s.size - 4) s.size).toList) = false := toList_other (fun e => hne e.symm)
  have hle := extract_le s 0 (s.size - 4) 9223372036854775807 (by omega)
  have hs0 : 0 ≤ (s.size : Int) - 4 := by omega
  have hs1 : (s.size : Int) - 4 ≤ (s.size : Int) := by omega
  have hwr : IntKind.i64.wrap ((s.size : Int) - 4) = (s.size : Int) - 4 := IntWalk.i64_in _ (by omega)
  go_enter Try.func27, Try.ntmps27
  go_wp2
  go_region_held3 (fun _ => True) (exact trivial) (first
    | (go_at_call 36; ((with_reducible refine (spec_crc0 _ _ hle).mono ?_); rintro e w' ⟨rfl, rfl⟩))
    | (go_at_call 35; ((with_reducible refine (spec_four_crc _ _).mono ?_); rintro e w1 ⟨rfl, hb1⟩)))
  obtain ⟨⟨c0, c1, c2⟩, ⟨f0, f1, f2⟩, hz⟩ := three_kept_drew hb1
  have HB := Lib.hid (below_over hb1)
  clear hb1 hwr hs0 hs1 hle hte htn
  go_wp2
  refine bodyPost_ret (v := textOut ⟨#[]⟩ 0 5) (by simp [results, Try.results27, go_sem, textOut, c0, c1, c2, hz]) rfl ⟨rfl, ?_⟩
  exact ((HB.out.setCell (Nat.le_refl _) _).setCell (Nat.le_refl _) _).setCell (Nat.le_refl _) _

set_option maxRecDepth 100000 in
set_option maxHeartbeats 1000000 in
theorem spec_unseal_good (s : ByteArray) (w : World) (h1 : s.size ≤ 20000) (h2 : 4 ≤ s.size) (heq : backOf s = strOf (crcL (frontOf s))) :
    Calls Try.prog 27 #[.string s] w fun e w' => e = .returned (textOut (frontOf s) 0 0) ∧ Below w.heap.size w w' := by
  have htn : ((s.size : Int) - 4).toNat = s.size - 4 := by omega
  have hte : ((strOf (crcL (s.extract 0 (s.size - 4)))).toList == (s.extract (s.size - 4) s.size).toList) = true := toList_same heq.symm
  have hle := extract_le s 0 (s.size - 4) 9223372036854775807 (by omega)
  have hs0 : 0 ≤ (s.size : Int) - 4 := by omega
  have hs1 : (s.size : Int) - 4 ≤ (s.size : Int) := by omega
  have hwr : IntKind.i64.wrap ((s.size : Int) - 4) = (s.size : Int) - 4 := IntWalk.i64_in _ (by omega)
  clear heq
  go_enter Try.func27, Try.ntmps27
  go_wp2
  go_region_held3 (fun _ => True) (exact trivial) (first
    | (go_at_call 36; ((with_reducible refine (spec_crc0 _ _ hle).mono ?_); rintro e w' ⟨rfl, rfl⟩))
    | (go_at_call 35; ((with_reducible refine (spec_four_crc _ _).mono ?_); rintro e w1 ⟨rfl, hb1⟩)))
  obtain ⟨⟨c0, c1, c2⟩, ⟨f0, f1, f2⟩, hz⟩ := three_kept_drew hb1
  have HB := Lib.hid (below_over hb1)
  clear hb1 hwr hs0 hs1 hle hte htn
  go_wp2
  refine bodyPost_ret (v := textOut (frontOf s) 0 0) (by simp [results, Try.results27, go_sem, textOut, c0, c1, c2, hz, frontOf]) rfl ⟨rfl, ?_⟩
  exact ((HB.out.setCell (Nat.le_refl _) _).setCell (Nat.le_refl _) _).setCell (Nat.le_refl _) _

set_option maxRecDepth 100000 in
set_option maxHeartbeats 1000000 in
theorem spec_unseal (s : ByteArray) (w : World) (hs : s.size ≤ 9223372036854775807) :
    Calls Try.prog 27 #[.string s] w fun e w' => e = .returned (unsealV s) ∧ Below w.heap.size w w' := by
  unfold unsealV
  by_cases h1 : 20000 < s.size
  · rw [if_pos h1]
    go_enter Try.func27, Try.ntmps27
    go_wp2
    exact bodyPost_ret (v := textOut ⟨#[]⟩ 0 2) (by simp [results, Try.results27, go_sem, textOut]) rfl ⟨rfl, (Below.refl _ _).alloc (Nat.le_refl _) _⟩
  · rw [if_neg h1]
    by_cases h2 : s.size < 4
    · rw [if_pos h2]
      go_enter Try.func27, Try.ntmps27
      go_wp2
      exact bodyPost_ret (v := textOut ⟨#[]⟩ 0 4) (by simp [results, Try.results27, go_sem, textOut]) rfl ⟨rfl, (Below.refl _ _).alloc (Nat.le_refl _) _⟩
    · rw [if_neg h2]
      by_cases h3 : backOf s = strOf (crcL (frontOf s))
      · rw [if_pos h3]
        exact spec_unseal_good s w (by omega) (by omega) h3
      · rw [if_neg h3]
        exact spec_unseal_bad s w (by omega) (by omega) h3

theorem unsealV_form (s : ByteArray) : ∃ t a c, unsealV s = textOut t a c := by
  unfold unsealV
  split
  · exact ⟨_, _, _, rfl⟩
  · split
    · exact ⟨_, _, _, rfl⟩
    · split
      · exact ⟨_, _, _, rfl⟩
      · exact ⟨_, _, _, rfl⟩

set_option maxRecDepth 100000 in
theorem eq_textout (t : ByteArray) (a c : Int) (w : World) :
    Calls Try.prog 28 #[textOut t a c, textOut t a c] w fun e w' => e = .returned (.bool true) ∧ Below w.heap.size w w' := by
  unfold textOut
  go_enter Try.func28, Try.ntmps28
  go_wp2
  go_ret
  exact ⟨rfl, ((Below.refl _ _).alloc (Nat.le_refl _) _).alloc (by simp) _⟩
end Go.Proofs.Ytnejnhfdinmicaa
