/- What FnNums draws: any number; any string of at most 20001 bytes. -/
import Derived.Test.YtnejnhfdinmicaaDoorEdgeWalks
namespace Go.Proofs.YtnejnhfdinmicaaDoor
open Go.RowKit

set_option maxRecDepth 100000 in
set_option maxHeartbeats 2000000 in
theorem src_any (B g : Nat) (w : World) (hS : Src w B g) :
    Calls Tryd.prog 19 #[.pointer (some ⟨g, 0, none⟩)] w (Drew B g w NumAny) := by
  have HS := Lib.hid hS
  clear hS
  go_enter Tryd.func19, Tryd.ntmps19
  go_wp2_with fail
  refine (src_one B g 4 _ (by omega) HS.out).mono ?_
  rintro e w1 ⟨_, rfl, ⟨q, rfl⟩, hS1, hg1⟩
  cases q
  · go_wp2_with fail
    refine (src_n B g 1099511627776 _ (by omega) hS1).mono ?_
    rintro e w2 ⟨_, rfl, ⟨r, rfl, h0, h1⟩, hS2, hg2⟩
    go_wp2
    go_ret
    exact ⟨_, rfl, ⟨r - 1048576, rfl, by omega, by omega⟩, hS2, grown_same hg1 hg2⟩
  · go_wp2_with (go_at_call 29; refine (src_edge B g _ hS1 hS1.lt).mono ?_; rintro e w2 ⟨_, rfl, ⟨r, rfl, h0, h1⟩, hS2, hg2⟩)
    go_ret
    exact ⟨_, rfl, ⟨r, rfl, h0, h1⟩, hS2, grown_same hg1 hg2⟩

theorem draw_putnum (a : Option Addr) (len cap : Nat) (w : World) (hlen : len ≤ 1048576) (hrow : SrcRow w w.heap.size a len) :
    Calls Tryd.prog 6 #[.slice a len cap] w fun e w' => (∃ v, e = .returned v ∧ NumAny v) ∧ Below w.heap.size w w' := by
  have HR := Lib.hid hrow
  clear hrow
  go_enter Tryd.func6, Tryd.ntmps6
  go_wp2_with (first
    | (go_at_call 18; refine (src_source a len cap _ hlen HR.out).mono ?_; rintro e w1 ⟨rfl, hS1, hb1⟩)
    | (go_at_call 19; refine (src_any w.heap.size w.heap.size _ hS1).mono ?_; rintro e w2 ⟨_, rfl, ⟨r, rfl, h0, h1⟩, hS2, hg2⟩))
  go_ret
  exact ⟨⟨_, rfl, ⟨r, rfl, h0, h1⟩⟩, src_below hb1 hg2⟩

set_option maxRecDepth 100000 in
set_option maxHeartbeats 2000000 in
theorem draw_puttext (a : Option Addr) (len cap : Nat) (w : World) (hlen : len ≤ 1048576) (hrow : SrcRow w w.heap.size a len) :
    Calls Tryd.prog 10 #[.slice a len cap] w fun e w' => (∃ v, e = .returned v ∧ StrIn 20001 v) ∧ Below w.heap.size w w' := by
  obtain ⟨i0, hi, hz0, hz1, hz2⟩ := info_parts info_u8d
  have HR := Lib.hid hrow
  clear hrow
  go_enter Tryd.func10, Tryd.ntmps10
  go_wp2_with (first
    | (go_at_call 18; refine (src_source a len cap _ hlen HR.out).mono ?_; rintro e w1 ⟨rfl, hS1, hb1⟩)
    | (go_at_call 25; refine (src_one w.heap.size w.heap.size 8 _ (by omega) hS1).mono ?_; rintro e w2 ⟨_, rfl, ⟨q, rfl⟩, hS2, hg2⟩))
  · refine (src_n w.heap.size w.heap.size 3 _ (by omega) hS2).mono ?_
    rintro e w3 ⟨_, rfl, ⟨r, rfl, h0, h1⟩, hS3, hg3⟩
    obtain ⟨n, hn⟩ : ∃ n : Nat, 19999 + r = n := ⟨(19999 + r).toNat, by omega⟩
    have hnl : n ≤ 20001 := by omega
    have HN := Lib.hid hn
    have hmk : ∀ u : World, (Instr.makeSlice 22 (.int .i64 (n : Int)) (.int .i64 (n : Int))).run Tryd.prog u =
        .ok (.slice (some ⟨u.heap.size, 0, none⟩) n n) (u.alloc (.cells (madeCells #[.int .u8 0] n) 5)) := fun u => by
      have h := run_make (P := Tryd.prog) u 22 5 i0 (.int .u8 0) Tryd.underlying22 hi hz0 .i64 .i64 (n : Int) (n : Int) (by omega) (Int.le_refl _) (by rw [hz2]; omega) (by omega)
      simpa [hz1, Value.cells] using h
    have hcv := run_string_made (P := Tryd.prog) w3 22 9 5 n Tryd.underlying22 Tryd.underlying5 Tryd.underlying9
    go_wp2
    go_ret
    exact ⟨⟨_, rfl, ⟨_, rfl, by rw [strOf_size]; simp; omega⟩⟩, (src_below (src_below hb1 hg2) hg3).alloc (src_below (src_below hb1 hg2) hg3).size _⟩
  · refine (src_n w.heap.size w.heap.size 20 _ (by omega) hS2).mono ?_
    rintro e w3 ⟨_, rfl, ⟨r, rfl, h0, h1⟩, hS3, hg3⟩
    obtain ⟨n, rfl⟩ : ∃ n : Nat, r = n := ⟨r.toNat, by omega⟩
    go_wp2_with (go_at_call 27; refine (src_bytes w.heap.size w.heap.size n _ (by omega) (src_below (src_below hb1 hg2) hg3).size hS3 hS3.lt).mono ?_; rintro e w4 ⟨_, rfl, ⟨x, rfl, hx⟩, hS4, hg4⟩)
    go_ret
    exact ⟨⟨_, rfl, ⟨x, rfl, by omega⟩⟩, src_below (src_below (src_below hb1 hg2) hg3) hg4⟩
end Go.Proofs.YtnejnhfdinmicaaDoor
