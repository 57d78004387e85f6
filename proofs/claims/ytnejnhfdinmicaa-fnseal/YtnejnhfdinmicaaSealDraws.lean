/- What FnSeal draws: any string of at most 19997 bytes; any number and any string of at most 8 bytes. -/
import Derived.Test.YtnejnhfdinmicaaEdgeWalks
import Derived.Test.YtnejnhfdinmicaaCrcWalks
namespace Go.Proofs.Ytnejnhfdinmicaa
open Go.RowKit

set_option maxRecDepth 100000 in
set_option maxHeartbeats 2000000 in
theorem draw_seal (a : Option Addr) (len cap : Nat) (w : World) (hlen : len ≤ 1048576) (hrow : SrcRow w w.heap.size a len) :
    Calls Try.prog 11 #[.slice a len cap] w fun e w' => (∃ v, e = .returned v ∧ StrIn 19997 v) ∧ Below w.heap.size w w' := by
  obtain ⟨i0, hi, hz0, hz1, hz2⟩ := info_parts info_u8d
  have HR := Lib.hid hrow
  clear hrow
  go_enter Try.func11, Try.ntmps11
  go_wp2_with (first
    | (go_at_call 29; refine (src_source a len cap _ hlen HR.out).mono ?_; rintro e w1 ⟨rfl, hS1, hb1⟩)
    | (go_at_call 30; refine (src_one w.heap.size w.heap.size 30 _ (by omega) hS1).mono ?_; rintro e w2 ⟨_, rfl, ⟨q, rfl⟩, hS2, hg2⟩))
  · refine (src_n w.heap.size w.heap.size 3 _ (by omega) hS2).mono ?_
    rintro e w3 ⟨_, rfl, ⟨r, rfl, h0, h1⟩, hS3, hg3⟩
    obtain ⟨n, hn⟩ : ∃ n : Nat, 19995 + r = n := ⟨(19995 + r).toNat, by omega⟩
    have hnl : n ≤ 19997 := by omega
    have HN := Lib.hid hn
    have hmk : ∀ u : World, (Instr.makeSlice 22 (.int .i64 (n : Int)) (.int .i64 (n : Int))).run Try.prog u =
        .ok (.slice (some ⟨u.heap.size, 0, none⟩) n n) (u.alloc (.cells (madeCells #[.int .u8 0] n) 5)) := fun u => by
      have h := run_make (P := Try.prog) u 22 5 i0 (.int .u8 0) Try.underlying22 hi hz0 .i64 .i64 (n : Int) (n : Int) (by omega) (Int.le_refl _) (by rw [hz2]; omega) (by omega)
      simpa [hz1, Value.cells] using h
    have hcv := run_string_made (P := Try.prog) w3 22 9 5 n Try.underlying22 Try.underlying5 Try.underlying9
    go_wp2
    go_ret
    exact ⟨⟨_, rfl, ⟨_, rfl, by rw [strOf_size]; simp; omega⟩⟩, (src_below (src_below hb1 hg2) hg3).alloc (src_below (src_below hb1 hg2) hg3).size _⟩
  · refine (src_n w.heap.size w.heap.size 20 _ (by omega) hS2).mono ?_
    rintro e w3 ⟨_, rfl, ⟨r, rfl, h0, h1⟩, hS3, hg3⟩
    obtain ⟨n, rfl⟩ : ∃ n : Nat, r = n := ⟨r.toNat, by omega⟩
    go_wp2_with (go_at_call 32; refine (src_bytes w.heap.size w.heap.size n _ (by omega) (src_below (src_below hb1 hg2) hg3).size hS3 hS3.lt).mono ?_; rintro e w4 ⟨_, rfl, ⟨x, rfl, hx⟩, hS4, hg4⟩)
    go_ret
    exact ⟨⟨_, rfl, ⟨x, rfl, by omega⟩⟩, src_below (src_below (src_below hb1 hg2) hg3) hg4⟩

/-- What DrawCrcMore answers: any number, any string of at most 8 bytes. -/
def CrcDrawn (v : Value) : Prop := ∃ (c : Int) (s : ByteArray), v = .tuple #[.int .i64 c, .string s] ∧ s.size ≤ 8 ∧ -9223372036854775808 ≤ c ∧ c ≤ 9223372036854775807
theorem crcMoreZ_le (c : Int) (s : ByteArray) : 0 ≤ crcMoreZ c s ∧ crcMoreZ c s ≤ 4294967295 := by
  unfold crcMoreZ
  split
  · omega
  · have := crcOf_lt (c := c.toNat) (by omega) s.data.toList
    omega

set_option maxRecDepth 100000 in
set_option maxHeartbeats 2000000 in
theorem draw_crcmore (a : Option Addr) (len cap : Nat) (w : World) (hlen : len ≤ 1048576) (hrow : SrcRow w w.heap.size a len) :
    Calls Try.prog 16 #[.slice a len cap] w fun e w' => (∃ v, e = .returned v ∧ CrcDrawn v) ∧ Below w.heap.size w w' := by
  have HR := Lib.hid hrow
  clear hrow
  go_enter Try.func16, Try.ntmps16
  go_wp2_with (go_at_call 29; refine (src_source a len cap _ hlen HR.out).mono ?_; rintro e w1 ⟨rfl, hS1, hb1⟩)
  refine (src_n w.heap.size w.heap.size 9 _ (by omega) hS1).mono ?_
  rintro e w2 ⟨_, rfl, ⟨r, rfl, h0, h1⟩, hS2, hg2⟩
  obtain ⟨n, rfl⟩ : ∃ n : Nat, r = n := ⟨r.toNat, by omega⟩
  have hb2 := src_below hb1 hg2
  clear hg2 hb1 hS1
  go_wp2_with (go_at_call 32; refine (src_bytes w.heap.size w.heap.size n _ (by omega) hb2.size hS2 hS2.lt).mono ?_; rintro e w3 ⟨_, rfl, ⟨x, rfl, hx⟩, hS3, hg3⟩)
  have hb3 := src_below hb2 hg3
  clear hg3 hb2 hS2
  refine (src_one w.heap.size w.heap.size 5 _ (by omega) hS3).mono ?_
  rintro e w4 ⟨_, rfl, ⟨q, rfl⟩, hS4, hg4⟩
  have hb4 := src_below hb3 hg4
  clear hg4 hb3 hS3
  cases q
  · go_wp2_with fail
    refine (src_n w.heap.size w.heap.size 9 _ (by omega) hS4).mono ?_
    rintro e w5 ⟨_, rfl, ⟨r, rfl, h2, h3⟩, hS5, hg5⟩
    obtain ⟨m, rfl⟩ : ∃ m : Nat, r = m := ⟨r.toNat, by omega⟩
    have hb5 := src_below hb4 hg5
    clear hg5 hb4 hS4
    go_wp2_with (first
      | (go_at_call 32; refine (src_bytes w.heap.size w.heap.size m _ (by omega) hb5.size hS5 hS5.lt).mono ?_; rintro e w6 ⟨_, rfl, ⟨y, rfl, hy⟩, hS6, hg6⟩)
      | (go_at_call 26; refine (spec_crc _ _ (by omega)).mono ?_; rintro e w7 ⟨rfl, rfl⟩))
    go_ret2
    have := crcMoreZ_le 0 y
    exact ⟨⟨_, rfl, ⟨_, x, rfl, by omega, by omega, by omega⟩⟩, src_below hb5 hg6⟩
  · go_wp2_with (go_at_call 37; refine (src_edge w.heap.size w.heap.size _ hS4 hS4.lt).mono ?_; rintro e w5 ⟨_, rfl, ⟨c, rfl, hc0, hc1⟩, hS5, hg5⟩)
    go_ret2
    exact ⟨⟨_, rfl, ⟨c, x, rfl, by omega, hc0, hc1⟩⟩, src_below hb4 hg5⟩

/-- The number of a code at a place. -/
theorem lw_at (a : Option Addr) (len cap at_ : Nat) (most : Int) (w : World) (hlen : len ≤ 1048576) (hrow : SrcRow w w.heap.size a len) (hm0 : 0 ≤ most) (hm : most ≤ 9223372036854775807) (hat : at_ ≤ 1048576) :
    Calls Try.prog 14 #[.slice a len cap, .int .i64 (at_ : Int), .int .i64 most] w fun e w' => (∃ v, e = .returned v ∧ NumIn most v) ∧ w = w' := by
  by_cases h1 : most ≤ 1
  · have HR := Lib.hid hrow
    clear hrow
    go_enter Try.func14, Try.ntmps14
    go_wp2
    all_goals (go_ret; exact ⟨⟨_, rfl, ⟨0, rfl, by omega, .inr rfl⟩⟩, rfl⟩)
  · by_cases h2 : len = 0
    · subst h2
      have HR := Lib.hid hrow
      clear hrow
      go_enter Try.func14, Try.ntmps14
      go_wp2
      all_goals (go_ret; exact ⟨⟨_, rfl, ⟨0, rfl, by omega, .inr rfl⟩⟩, rfl⟩)
    · have hlt : at_ % len < len := Nat.mod_lt _ (by omega)
      obtain ⟨b, off, z, rfl, hb, hc, hz0, hz1⟩ := hrow (at_ % len) hlt
      clear hrow
      have h3 : ((len : Int) == 0) = false := by simp; omega
      go_enter Try.func14, Try.ntmps14
      go_wp2
      go_ret
      exact ⟨⟨_, rfl, ⟨z % most, rfl, Int.emod_nonneg _ (by omega), .inl (Int.emod_lt_of_pos _ (by omega))⟩⟩, rfl⟩

/-- The number of a code at a place: one number, whatever has been drawn besides. -/
theorem lw_det (a : Option Addr) (len cap at_ : Nat) (K : Int) (hK : K = (at_ : Int)) (most : Int) (w : World) (hlen : len ≤ 1048576) (hrow : SrcRow w w.heap.size a len) (hm0 : 1 < most) (hm : most ≤ 9223372036854775807) (hat : at_ ≤ 1048576) :
    ∃ r : Int, 0 ≤ r ∧ r < most ∧ ∀ W : World, W.heap = w.heap → Calls Try.prog 14 #[.slice a len cap, .int .i64 K, .int .i64 most] W fun e w' => e = .returned (.int .i64 r) ∧ W = w' := by
  subst hK
  by_cases h2 : len = 0
  · subst h2
    refine ⟨0, by omega, by omega, fun W _ => ?_⟩
    have HR := Lib.hid hrow
    clear hrow
    go_enter Try.func14, Try.ntmps14
    go_wp2
    all_goals (go_ret; exact ⟨rfl, rfl⟩)
  · have hlt : at_ % len < len := Nat.mod_lt _ (by omega)
    obtain ⟨b, off, z, rfl, hb, hc, hz0, hz1⟩ := hrow (at_ % len) hlt
    refine ⟨z % most, Int.emod_nonneg _ (by omega), Int.emod_lt_of_pos _ (by omega), fun W hW => ?_⟩
    have hcW : W.cell? ⟨b, off + at_ % len, none⟩ = some (.int .u8 z) := by rw [← hc]; unfold World.cell?; rw [hW]
    clear hrow hc hW
    have h3 : ((len : Int) == 0) = false := by simp; omega
    go_enter Try.func14, Try.ntmps14
    go_wp2
    go_ret
    exact ⟨rfl, rfl⟩

/-- What []byte(s) lays: its cells, none of them frozen. -/
theorem bytes_laid (w : World) (L : ByteArray) (cp e : Nat) {j : Nat} (hj : j < L.size) :
    ((w.alloc (.cells (bytesRow L cp) e ((bytesRow L cp).size, (bytesRow L cp).size + 1))).drew.cell? ⟨w.heap.size, j, none⟩ = some (byteV L.data[j])) ∧
    ((w.alloc (.cells (bytesRow L cp) e ((bytesRow L cp).size, (bytesRow L cp).size + 1))).drew.frozen? ⟨w.heap.size, j, none⟩ = false) := by
  constructor
  · show (w.alloc (.cells (bytesRow L cp) e _)).cell? _ = _
    rw [World.cell?_alloc_mark]
    exact bytesRow_at L cp j hj
  · show (w.alloc (.cells (bytesRow L cp) e (_, _))).frozen? _ = _
    rw [World.frozen?_alloc_mark]
    have hs : L.size ≤ (bytesRow L cp).size := by
      unfold bytesRow
      simp
    simp
    omega
end Go.Proofs.Ytnejnhfdinmicaa
