/- Rows of type Sub: comparison. -/
import Derived.Test.YtgfpcmfcnphalaaRowsC
import Derived.Test.YtgfpcmfcnphalaaHfMath
import Derived.Deep.RegionHeld3
import Derived.Deep.DeepFit
namespace Go.Proofs.Ytgfpcmfcnphalaa
set_option linter.unusedSimpArgs false
set_option linter.unusedVariables false
open Go.RowKit

set_option maxRecDepth 100000 in
set_option maxHeartbeats 1000000 in
theorem eq_sb (x : SbL) (w : World) : Calls Try.prog 61 #[.agg #[.int .i64 x.k, .int .i64 x.n], .agg #[.int .i64 x.k, .int .i64 x.n]] w fun e w' => e = .returned (.bool true) ∧ Below w.heap.size w w' := by
  go_enter Try.func61, Try.ntmps61
  go_wp2
  go_ret
  exact ⟨rfl, ((Below.refl _ _).alloc (Nat.le_refl _) _).alloc (by simp) _⟩
abbrev Both_sb (a b i : Nat) (x : SbL) (wr W : World) : Prop := ((W.cell? ⟨a, i * 2, none⟩ = some (.int .i64 x.k) ∧ W.cell? ⟨a, i * 2 + 1, none⟩ = some (.int .i64 x.n)) ∧ (W.cell? ⟨b, i * 2, none⟩ = some (.int .i64 x.k) ∧ W.cell? ⟨b, i * 2 + 1, none⟩ = some (.int .i64 x.n))) ∧ (Below wr.heap.size wr W ∧ a < wr.heap.size ∧ b < wr.heap.size)
theorem both_sb_on {a b i : Nat} {x : SbL} {wr W W2 : World} (h : Both_sb a b i x wr W) (hb : Below W.heap.size W W2) : Both_sb a b i x wr W2 := by
  obtain ⟨⟨⟨c0, c1⟩, d0, d1⟩, h1, h2, h3⟩ := h
  have ha : a < W.heap.size := Nat.lt_of_lt_of_le h2 h1.size
  have hb0 : b < W.heap.size := Nat.lt_of_lt_of_le h3 h1.size
  exact ⟨⟨⟨(hb.cell (p := ⟨a, i * 2, none⟩) ha).trans c0, (hb.cell (p := ⟨a, i * 2 + 1, none⟩) ha).trans c1⟩, (hb.cell (p := ⟨b, i * 2, none⟩) hb0).trans d0, (hb.cell (p := ⟨b, i * 2 + 1, none⟩) hb0).trans d1⟩, h1.trans (hb.mono h1.size), h2, h3⟩
theorem both_sb_drew {a b i : Nat} {x : SbL} {wr W : World} (h : Both_sb a b i x wr W) : Both_sb a b i x wr W.drew := both_sb_on h (Below.refl _ _).drew
theorem row_sb {w : World} {p : Option Addr} {xs : List SbL} (h : RowC sbC 2 w p xs) {i : Nat} (hi : i < xs.length) : ∃ g, p = some ⟨g, 0, none⟩ ∧ g < w.heap.size ∧ w.cell? ⟨g, i * 2, none⟩ = (sbC xs[i])[0]? ∧ w.cell? ⟨g, i * 2 + 1, none⟩ = (sbC xs[i])[1]? := by
  obtain ⟨g, h1, h2, h3⟩ := h (List.ne_nil_of_length_pos (by omega))
  exact ⟨g, h1, h2, h3 i hi 0 (by decide), h3 i hi 1 (by decide)⟩
set_option maxRecDepth 100000 in
set_option maxHeartbeats 2000000 in
theorem eqs_sb (xs : List SbL) (p q : Option Addr) (c d : Nat) (w : World) (hn : xs.length ≤ 2000000) (hp : RowC sbC 2 w p xs) (hq : RowC sbC 2 w q xs) :
    Calls Try.prog 51 #[.slice p xs.length c, .slice q xs.length d] w fun e w' => e = .returned (.bool true) ∧ Below w.heap.size w w' := by
  obtain ⟨n, hxn⟩ : ∃ n, xs.length = n := ⟨_, rfl⟩
  have HP := Lib.hid hp
  have HQ := Lib.hid hq
  have HN := Lib.hid hxn
  rw [hxn] at hn ⊢
  clear hp hq hxn
  go_enter Try.func51, Try.ntmps51
  go_wp2
  go_loopw [5] (fun iq wr => ∃ i : Nat, i ≤ n ∧ iq = .int .i64 i ∧ Below w.heap.size w wr) (fun i _ => n - (intOf i).toNat)
  case atStart => exact ⟨0, Nat.zero_le _, rfl, Below.refl _ _⟩
  case round =>
    obtain ⟨i, hi, rfl, hb⟩ := hrel
    have HB := Lib.hid hb
    by_cases hlt : i < n
    · obtain ⟨a, rfl, ha, a0, a1⟩ := row_sb HP.out (i := i) (by rw [HN.out]; exact hlt)
      obtain ⟨b, rfl, hb0, b0, b1⟩ := row_sb HQ.out (i := i) (by rw [HN.out]; exact hlt)
      obtain ⟨x, hx⟩ : ∃ x, xs[i]'(by rw [HN.out]; exact hlt) = x := ⟨_, rfl⟩
      rw [hx] at a0 b0 a1 b1
      have HS : Hid (Both_sb a b i x wr wr) := Lib.hid ⟨⟨⟨(hb.cell (p := ⟨a, i * 2, none⟩) ha).trans a0, (hb.cell (p := ⟨a, i * 2 + 1, none⟩) ha).trans a1⟩, (hb.cell (p := ⟨b, i * 2, none⟩) hb0).trans b0, (hb.cell (p := ⟨b, i * 2 + 1, none⟩) hb0).trans b1⟩, Below.refl _ _, Nat.lt_of_lt_of_le ha hb.size, Nat.lt_of_lt_of_le hb0 hb.size⟩
      clear hb a0 b0 a1 b1 hx ha hb0
      go_wp2
      go_region_held3 (fun W => ((W.cell? ⟨a, i * 2, none⟩ = some (.int .i64 x.k) ∧ W.cell? ⟨a, i * 2 + 1, none⟩ = some (.int .i64 x.n)) ∧ (W.cell? ⟨b, i * 2, none⟩ = some (.int .i64 x.k) ∧ W.cell? ⟨b, i * 2 + 1, none⟩ = some (.int .i64 x.n))) ∧ (Below wr.heap.size wr W ∧ a < wr.heap.size ∧ b < wr.heap.size))
        (with_reducible first | assumption | exact both_sb_drew HS.out | exact both_sb_on (by assumption) hbN)
        (first | (go_at_call 61; go_fit (eq_sb x _); rintro e wn ⟨rfl, hbN⟩; have HF := Lib.hid (both_sb_on (i := i) (wr := wr) (by assumption) hbN)))
      go_wp2
      go_roundw
      case rel => exact ⟨i + 1, by omega, by go_num, HB.out.trans (HF.out.2.1.mono HB.out.size)⟩
      case measure => simp [intOf]; omega
    · obtain rfl : i = n := by omega
      go_wp2
      go_ret
      exact ⟨rfl, HB.out⟩
end Go.Proofs.Ytgfpcmfcnphalaa
