/- What DrawEscape and DrawPlain answer: any string of at most 2001, of at most 1010 bytes. -/
import Derived.Test.YtihjgkicmgomcaaSpoilDraws
import Derived.Test.YtihjgkicmgomcaaDrawWalks
import Derived.Test.YtihjgkicmgomcaaStEscS
namespace Go.Proofs.Ytihjgkicmgomcaa
set_option linter.unusedSimpArgs false
set_option linter.unusedVariables false
open Go.RowKit

theorem list_esc : ∀ s ∈ ([⟨#[]⟩, ⟨#[97]⟩, ⟨#[60, 38, 62, 39, 34]⟩, ⟨#[38, 97, 109, 112, 59]⟩] : List ByteArray), s.size ≤ 5 := by decide
set_option maxRecDepth 100000 in
set_option maxHeartbeats 2000000 in
theorem draw_escape (a : Option Addr) (len cap : Nat) (w : World) (hlen : len ≤ 1048576) (hrow : SrcRow w w.heap.size a len) :
    Calls Try.prog 10 #[.slice a len cap] w fun e w' => (∃ v, e = .returned v ∧ StrIn 2001 v) ∧ Below w.heap.size w w' := by
  obtain ⟨i0, hi, q0, q1, q2⟩ := info_parts info_u8d
  have HR := Lib.hid hrow
  clear hrow
  go_enter Try.func10, Try.ntmps10
  go_wp2_with fail
  refine (src_source a len cap _ hlen HR.out).mono ?_
  rintro e w1 ⟨rfl, hS1, hb1⟩
  have hz1 := hS1.lt
  go_wp2_with fail
  refine (src_one _ _ 15 _ (by omega) hS1).mono ?_
  rintro e w2 ⟨_, rfl, ⟨q, rfl⟩, hS2, hg2⟩
  have hb2 := src_below hb1 hg2
  have hz2 := hS2.lt
  clear hS1 hg2 hb1
  cases q
  · go_wp2_with fail
    refine (src_pick _ _ w2.heap.size 4 5 _ (by omega) (by omega) (hS2.alloc _) (by omega) (strRow_at w2 9 5 _ [⟨#[]⟩, ⟨#[97]⟩, ⟨#[60, 38, 62, 39, 34]⟩, ⟨#[38, 97, 109, 112, 59]⟩] rfl list_esc)).mono ?_
    rintro e w3 ⟨_, rfl, ⟨t, rfl, ht⟩, hS3, hg3⟩
    have hb3 := src_below (hb2.alloc hb2.size _) hg3
    have hz3 := hS3.lt
    clear hS2 hg3 hb2
    go_wp2_with fail
    refine (src_n _ _ 3 _ (by omega) hS3).mono ?_
    rintro e w4 ⟨_, rfl, ⟨r, rfl, r0, r1⟩, hS4, hg4⟩
    have hb4 := src_below hb3 hg4
    have hz4 := hS4.lt
    clear hS3 hg4 hb3
    obtain ⟨k, rfl⟩ : ∃ k : Nat, r = (k : Int) := ⟨r.toNat, by omega⟩
    go_wp2_with fail
    refine (src_bytes _ _ k _ (by omega) hb4.size hS4 hz4).mono ?_
    rintro e w5 ⟨_, rfl, ⟨u, rfl, hu⟩, hS5, hg5⟩
    have hb5 := src_below hb4 hg5
    go_wp2
    go_ret
    exact ⟨⟨_, rfl, ⟨_, rfl, by rw [ByteArray.size_append]; omega⟩⟩, hb5⟩
  · go_wp2_with fail
    refine (src_n _ _ 2 _ (by omega) hS2).mono ?_
    rintro e w3 ⟨_, rfl, ⟨r, rfl, r0, r1⟩, hS3, hg3⟩
    have hb3 := src_below hb2 hg3
    clear hS2 hg3 hb2
    obtain ⟨n, hn⟩ : ∃ n : Nat, 2000 + r = n := ⟨(2000 + r).toNat, by omega⟩
    have hnl : n ≤ 2001 := by omega
    have HN := Lib.hid hn
    have hmk : ∀ u : World, (Instr.makeSlice 22 (.int .i64 (n : Int)) (.int .i64 (n : Int))).run Try.prog u =
        .ok (.slice (some ⟨u.heap.size, 0, none⟩) n n) (u.alloc (.cells (madeCells #[.int .u8 0] n) 5)) := fun u => by
      have h := run_make (P := Try.prog) u 22 5 i0 (.int .u8 0) Try.underlying22 hi q0 .i64 .i64 (n : Int) (n : Int) (by omega) (Int.le_refl _) (by rw [q2]; omega) (by omega)
      simpa [q1, Value.cells] using h
    have hcv := run_string_made (P := Try.prog) w3 22 9 5 n Try.underlying22 Try.underlying5 Try.underlying9
    go_wp2
    go_ret
    exact ⟨⟨_, rfl, ⟨_, rfl, by rw [strOf_size]; simp; omega⟩⟩, hb3.alloc hb3.size _⟩
theorem escS_le {s : ByteArray} (h : s.size ≤ 5) : (escS s).size ≤ 30 := by
  unfold escS
  rw [if_neg (by omega), strOf_size]
  have := escL_len s.data.toList
  rw [size_data] at this
  omega
set_option maxRecDepth 100000 in
set_option maxHeartbeats 2000000 in
theorem draw_plain (a : Option Addr) (len cap : Nat) (w : World) (hlen : len ≤ 1048576) (hrow : SrcRow w w.heap.size a len) :
    Calls Try.prog 14 #[.slice a len cap] w fun e w' => (∃ v, e = .returned v ∧ StrIn 1010 v) ∧ Below w.heap.size w w' := by
  have HR := Lib.hid hrow
  clear hrow
  go_enter Try.func14, Try.ntmps14
  go_wp2_with fail
  refine (src_source a len cap _ hlen HR.out).mono ?_
  rintro e w2 ⟨rfl, hS2, hb2⟩
  have hz2 := hS2.lt
  go_wp2_with fail
  refine (src_pick _ _ w2.heap.size 4 5 _ (by omega) (by omega) (hS2.alloc _) (by omega) (strRow_at w2 9 5 _ [⟨#[]⟩, ⟨#[97]⟩, ⟨#[60, 38, 62, 39, 34]⟩, ⟨#[38, 97, 109, 112, 59]⟩] rfl list_esc)).mono ?_
  rintro e w3 ⟨_, rfl, ⟨t, rfl, ht⟩, hS3, hg3⟩
  have hb3 := src_below (hb2.alloc hb2.size _) hg3
  have hz3 := hS3.lt
  clear hS2 hg3 hb2
  go_wp2_with fail
  refine (spec_escape t _ (by unfold maxLen; omega)).mono ?_
  rintro e w4 ⟨rfl, hb4⟩
  have hS4 := hS3.on hb4
  replace hb4 := hb3.trans (hb4.mono hb3.size)
  have hu := escS_le ht
  obtain ⟨u, hu0⟩ : ∃ u, u = escS t := ⟨_, rfl⟩
  rw [← hu0] at hu ⊢
  clear hS3 hb3 hu0
  go_wp2_with fail
  refine (src_one _ _ 2 _ (by omega) hS4).mono ?_
  rintro e w5 ⟨_, rfl, ⟨q, rfl⟩, hS5, hg5⟩
  have hb5 := src_below hb4 hg5
  clear hS4 hg5 hb4
  cases q
  · go_wp2
    go_ret
    exact ⟨⟨_, rfl, ⟨u, rfl, by omega⟩⟩, hb5⟩
  · go_wp2_with fail
    refine (src_spoil _ _ u _ (by omega) hS5).mono ?_
    rintro e w6 ⟨_, rfl, ⟨x, rfl, hx⟩, hS6, hg6⟩
    have hb6 := src_below hb5 hg6
    go_wp2
    go_ret
    exact ⟨⟨_, rfl, ⟨x, rfl, hx⟩⟩, hb6⟩
end Go.Proofs.Ytihjgkicmgomcaa
