/- What FnMac draws: strings of some bytes, a number. -/
import Derived.Test.YtihhcnokkmdhhaaDoorEdgeWalks
import Derived.Deep.RegionWith
namespace Go.Proofs.YtihhcnokkmdhhaaDoor
open Go.RowKit

theorem draw_digest (a : Option Addr) (len cap : Nat) (w : World) (hlen : len ≤ 1048576) (hrow : SrcRow w w.heap.size a len) :
    Calls Tryd.prog 11 #[.slice a len cap] w fun e w' => (∃ v, e = .returned v ∧ StrIn 199 v) ∧ Below w.heap.size w w' := by
  have HR := Lib.hid hrow
  clear hrow
  go_enter Tryd.func11, Tryd.ntmps11
  go_wp2_with (go_at_call 17; refine (src_source a len cap _ hlen HR.out).mono ?_; rintro e w1 ⟨rfl, hS1, hb1⟩)
  refine (src_n w.heap.size w.heap.size 200 _ (by omega) hS1).mono ?_
  rintro e w2 ⟨_, rfl, ⟨r, rfl, h0, h1⟩, hS2, hg2⟩
  obtain ⟨n, rfl⟩ : ∃ n : Nat, r = n := ⟨r.toNat, by omega⟩
  have hb2 := src_below hb1 hg2
  clear hg2 hb1 hS1
  go_wp2_with (go_at_call 18; refine (src_bytes w.heap.size w.heap.size n _ (by omega) hb2.size hS2 hS2.lt).mono ?_; rintro e w3 ⟨_, rfl, ⟨x, rfl, hx⟩, hS3, hg3⟩)
  go_ret
  exact ⟨⟨_, rfl, ⟨x, rfl, by omega⟩⟩, src_below hb2 hg3⟩

/-- What DrawMac answers: a key of at most 65 bytes, a text of at most 99. -/
def MacDrawn (v : Value) : Prop := ∃ (k t : ByteArray), v = .tuple #[.string k, .string t] ∧ k.size ≤ 65 ∧ t.size ≤ 99

set_option maxRecDepth 100000 in
set_option maxHeartbeats 2000000 in
theorem draw_mac (a : Option Addr) (len cap : Nat) (w : World) (hlen : len ≤ 1048576) (hrow : SrcRow w w.heap.size a len) :
    Calls Tryd.prog 7 #[.slice a len cap] w fun e w' => (∃ v, e = .returned v ∧ MacDrawn v) ∧ Below w.heap.size w w' := by
  obtain ⟨i0, hi, hz0, hz1, hz2⟩ := info_parts info_u8d
  have HR := Lib.hid hrow
  clear hrow
  go_enter Tryd.func7, Tryd.ntmps7
  go_wp2_with (go_at_call 17; refine (src_source a len cap _ hlen HR.out).mono ?_; rintro e w1 ⟨rfl, hS1, hb1⟩)
  refine (src_n w.heap.size w.heap.size 20 _ (by omega) hS1).mono ?_
  rintro e w2 ⟨_, rfl, ⟨r, rfl, h0, h1⟩, hS2, hg2⟩
  obtain ⟨n, rfl⟩ : ∃ n : Nat, r = n := ⟨r.toNat, by omega⟩
  have hb2 := src_below hb1 hg2
  clear hg2 hb1 hS1
  go_wp2_with (go_at_call 18; refine (src_bytes w.heap.size w.heap.size n _ (by omega) hb2.size hS2 hS2.lt).mono ?_; rintro e w3 ⟨_, rfl, ⟨x, rfl, hx⟩, hS3, hg3⟩)
  have hb3 := src_below hb2 hg3
  clear hg3 hb2 hS2
  refine (src_one w.heap.size w.heap.size 6 _ (by omega) hS3).mono ?_
  rintro e w4 ⟨_, rfl, ⟨q, rfl⟩, hS4, hg4⟩
  have hb4 := src_below hb3 hg4
  clear hg4 hb3 hS3
  cases q
  · go_wp2_with fail
    refine (src_n w.heap.size w.heap.size 100 _ (by omega) hS4).mono ?_
    rintro e w5 ⟨_, rfl, ⟨r, rfl, h2, h3⟩, hS5, hg5⟩
    obtain ⟨m, rfl⟩ : ∃ m : Nat, r = m := ⟨r.toNat, by omega⟩
    have hb5 := src_below hb4 hg5
    clear hg5 hb4 hS4
    go_wp2_with (go_at_call 18; refine (src_bytes w.heap.size w.heap.size m _ (by omega) hb5.size hS5 hS5.lt).mono ?_; rintro e w6 ⟨_, rfl, ⟨y, rfl, hy⟩, hS6, hg6⟩)
    go_ret2
    exact ⟨⟨_, rfl, ⟨x, y, rfl, by omega, by omega⟩⟩, src_below hb5 hg6⟩
  · go_wp2_with fail
    refine (src_n w.heap.size w.heap.size 3 _ (by omega) hS4).mono ?_
    rintro e w5 ⟨_, rfl, ⟨r, rfl, h2, h3⟩, hS5, hg5⟩
    obtain ⟨n3, hn⟩ : ∃ n : Nat, 63 + r = n := ⟨(63 + r).toNat, by omega⟩
    have hnl : n3 ≤ 65 := by omega
    have HN := Lib.hid hn
    have hb5 := src_below hb4 hg5
    clear hg5 hb4 hS4
    have hmk : ∀ u : World, (Instr.makeSlice 22 (.int .i64 (n3 : Int)) (.int .i64 (n3 : Int))).run Tryd.prog u =
        .ok (.slice (some ⟨u.heap.size, 0, none⟩) n3 n3) (u.alloc (.cells (madeCells #[.int .u8 0] n3) 5)) := fun u => by
      have h := run_make (P := Tryd.prog) u 22 5 i0 (.int .u8 0) Tryd.underlying22 hi hz0 .i64 .i64 (n3 : Int) (n3 : Int) (by omega) (Int.le_refl _) (by rw [hz2]; omega) (by omega)
      simpa [hz1, Value.cells] using h
    have hcv := run_string_made (P := Tryd.prog) w5 22 9 5 n3 Tryd.underlying22 Tryd.underlying5 Tryd.underlying9
    go_wp2_with fail
    clear hmk hcv
    refine (src_n w.heap.size w.heap.size 100 _ (by omega) (hS5.alloc _)).mono ?_
    rintro e w6 ⟨_, rfl, ⟨r6, rfl, h6, h7⟩, hS6, hg6⟩
    obtain ⟨m, rfl⟩ : ∃ m : Nat, r6 = m := ⟨r6.toNat, by omega⟩
    have hb6 := src_below (hb5.alloc hb5.size _) hg6
    clear hg6 hb5 hS5
    go_wp2_with (go_at_call 18; refine (src_bytes w.heap.size w.heap.size m _ (by omega) hb6.size hS6 hS6.lt).mono ?_; rintro e w7 ⟨_, rfl, ⟨y, rfl, hy⟩, hS7, hg7⟩)
    go_ret2
    exact ⟨⟨_, rfl, ⟨_, y, rfl, by rw [strOf_size]; simp; omega, by omega⟩⟩, src_below hb6 hg7⟩

/-- What DrawStretch answers: a string of at most 8 bytes, some number. -/
def StretchDrawn (v : Value) : Prop := ∃ (p : ByteArray) (n : Int), v = .tuple #[.string p, .int .i64 n] ∧ p.size ≤ 8 ∧ -9223372036854775808 ≤ n ∧ n ≤ 9223372036854775807
theorem five_at (e : Int) (he : -9223372036854775808 ≤ e ∧ e ≤ 9223372036854775807) {R : Nat} (hR : R < 5) :
    ∃ X : Int, ([.int .i64 0, .int .i64 1, .int .i64 100, .int .i64 101, .int .i64 e] : List Value)[R]? = some (.int .i64 X) ∧ -9223372036854775808 ≤ X ∧ X ≤ 9223372036854775807 := by
  have : R = 0 ∨ R = 1 ∨ R = 2 ∨ R = 3 ∨ R = 4 := by omega
  rcases this with rfl | rfl | rfl | rfl | rfl
  · exact ⟨0, rfl, by omega, by omega⟩
  · exact ⟨1, rfl, by omega, by omega⟩
  · exact ⟨100, rfl, by omega, by omega⟩
  · exact ⟨101, rfl, by omega, by omega⟩
  · exact ⟨e, rfl, he.1, he.2⟩

set_option maxRecDepth 100000 in
set_option maxHeartbeats 2000000 in
theorem draw_stretch (a : Option Addr) (len cap : Nat) (w : World) (hlen : len ≤ 1048576) (hrow : SrcRow w w.heap.size a len) :
    Calls Tryd.prog 12 #[.slice a len cap] w fun e w' => (∃ v, e = .returned v ∧ StretchDrawn v) ∧ Below w.heap.size w w' := by
  have HR := Lib.hid hrow
  clear hrow
  go_enter Tryd.func12, Tryd.ntmps12
  go_wp2_with (go_at_call 17; refine (src_source a len cap _ hlen HR.out).mono ?_; rintro e w1 ⟨rfl, hS1, hb1⟩)
  refine (src_n w.heap.size w.heap.size 9 _ (by omega) hS1).mono ?_
  rintro e w2 ⟨_, rfl, ⟨r, rfl, h0, h1⟩, hS2, hg2⟩
  obtain ⟨n, rfl⟩ : ∃ n : Nat, r = n := ⟨r.toNat, by omega⟩
  have hb2 := src_below hb1 hg2
  clear hg2 hb1 hS1
  go_wp2_with (go_at_call 18; refine (src_bytes w.heap.size w.heap.size n _ (by omega) hb2.size hS2 hS2.lt).mono ?_; rintro e w3 ⟨_, rfl, ⟨x, rfl, hx⟩, hS3, hg3⟩)
  have hb3 := src_below hb2 hg3
  clear hg3 hb2 hS2
  refine (src_one w.heap.size w.heap.size 6 _ (by omega) hS3).mono ?_
  rintro e w4 ⟨_, rfl, ⟨q, rfl⟩, hS4, hg4⟩
  have hb4 := src_below hb3 hg4
  clear hg4 hb3 hS3
  cases q
  · go_wp2_with fail
    refine (src_n w.heap.size w.heap.size 9 _ (by omega) hS4).mono ?_
    rintro e w5 ⟨_, rfl, ⟨r, rfl, h2, h3⟩, hS5, hg5⟩
    have hb5 := src_below hb4 hg5
    clear hg5 hb4 hS4
    go_wp2
    go_ret2
    exact ⟨⟨_, rfl, ⟨x, _, rfl, by omega, by omega, by omega⟩⟩, hb5⟩
  · have HS4 := Lib.hid hS4
    clear hS4
    have hlt4 := HS4.out.lt
    have hl4 := hb4.size
    go_wp2_with fail
    go_region_with (first
      | (go_at_call 23; refine (src_edge w.heap.size w.heap.size w4.drew HS4.out hlt4).mono ?_; rintro e w5 ⟨_, rfl, ⟨E, rfl, e0, e1⟩, hS5, hg5⟩)
      | (go_at_call 19; refine (src_n w.heap.size w.heap.size 5 _ (by omega) (hS5.alloc _)).mono ?_; rintro e w6 ⟨_, rfl, ⟨r, rfl, h2, h3⟩, hS6, hg6⟩
         obtain ⟨R, rfl⟩ : ∃ R : Nat, r = R := ⟨r.toNat, by omega⟩
         obtain ⟨X, hX, x0, x1⟩ := five_at E ⟨e0, e1⟩ (R := R) (by omega)
         have hcell : w6.cell? ⟨w5.heap.size, R, none⟩ = some (.int .i64 X) := (((Arr.fresh w5 2 [.int .i64 0, .int .i64 1, .int .i64 100, .int .i64 101, .int .i64 E]).other hg6 (fun h => by have h4 := Option.some.inj h; have h5 := hg5.size; have h6 : w4.drew.heap.size = w4.heap.size := rfl; omega)).cell R).trans hX
         have hR5 : (R : Int) < 5 := by omega
         have hbb := src_below ((src_below hb4.drew hg5).alloc (src_below hb4.drew hg5).size _) hg6)
      | (go_at_call 19; refine (src_n w.heap.size w.heap.size 5 w5 (by omega) hS5).mono ?_; rintro e w6 ⟨_, rfl, ⟨r, rfl, h2, h3⟩, hS6, hg6⟩
         obtain ⟨R, rfl⟩ : ∃ R : Nat, r = R := ⟨r.toNat, by omega⟩
         obtain ⟨X, hX, x0, x1⟩ := five_at E ⟨e0, e1⟩ (R := R) (by omega)
         have hR5 : (R : Int) < 5 := by omega
         have hbb := src_below (src_below hb4.drew hg5) hg6))
    · go_wp2
      go_ret2
      exact ⟨⟨_, rfl, ⟨x, X, rfl, by omega, x0, x1⟩⟩, hbb⟩
    · go_wp2
      go_ret2
      exact ⟨⟨_, rfl, ⟨x, X, rfl, by omega, x0, x1⟩⟩, hbb.alloc hbb.size _⟩
end Go.Proofs.YtihhcnokkmdhhaaDoor
