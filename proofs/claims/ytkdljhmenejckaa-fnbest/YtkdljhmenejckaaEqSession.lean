/- Rows of type Session: comparison. -/
import Derived.Test.YtkdljhmenejckaaRowsC
import Derived.Test.YtkdljhmenejckaaSeRow
import Derived.Deep.RegionHeld3
import Derived.Deep.DeepFit
namespace Go.Proofs.Ytkdljhmenejckaa
set_option linter.unusedSimpArgs false
set_option linter.unusedVariables false
open Go.RowKit

set_option maxRecDepth 100000 in
set_option maxHeartbeats 1000000 in
theorem eq_se (x : SeL) (w : World) : Calls Try.prog 82 #[.agg #[.string x.r, .bool x.o, .int .i64 x.p, .string x.s], .agg #[.string x.r, .bool x.o, .int .i64 x.p, .string x.s]] w fun e w' => e = .returned (.bool true) ∧ Below w.heap.size w w' := by
  go_enter Try.func82, Try.ntmps82
  go_wp2
  go_ret
  exact ⟨rfl, ((Below.refl _ _).alloc (Nat.le_refl _) _).alloc (by simp) _⟩
abbrev Both_se (a b i : Nat) (x : SeL) (wr W : World) : Prop := ((W.cell? ⟨a, i * 4, none⟩ = some (.string x.r) ∧ W.cell? ⟨a, i * 4 + 1, none⟩ = some (.bool x.o) ∧ W.cell? ⟨a, i * 4 + 2, none⟩ = some (.int .i64 x.p) ∧ W.cell? ⟨a, i * 4 + 3, none⟩ = some (.string x.s)) ∧ (W.cell? ⟨b, i * 4, none⟩ = some (.string x.r) ∧ W.cell? ⟨b, i * 4 + 1, none⟩ = some (.bool x.o) ∧ W.cell? ⟨b, i * 4 + 2, none⟩ = some (.int .i64 x.p) ∧ W.cell? ⟨b, i * 4 + 3, none⟩ = some (.string x.s))) ∧ (Below wr.heap.size wr W ∧ a < wr.heap.size ∧ b < wr.heap.size)
theorem both_se_on {a b i : Nat} {x : SeL} {wr W W2 : World} (h : Both_se a b i x wr W) (hb : Below W.heap.size W W2) : Both_se a b i x wr W2 := by
  obtain ⟨⟨⟨c0, c1, c2, c3⟩, d0, d1, d2, d3⟩, h1, h2, h3⟩ := h
  have ha : a < W.heap.size := Nat.lt_of_lt_of_le h2 h1.size
  have hb0 : b < W.heap.size := Nat.lt_of_lt_of_le h3 h1.size
  exact ⟨⟨⟨(hb.cell (p := ⟨a, i * 4, none⟩) ha).trans c0, (hb.cell (p := ⟨a, i * 4 + 1, none⟩) ha).trans c1, (hb.cell (p := ⟨a, i * 4 + 2, none⟩) ha).trans c2, (hb.cell (p := ⟨a, i * 4 + 3, none⟩) ha).trans c3⟩, (hb.cell (p := ⟨b, i * 4, none⟩) hb0).trans d0, (hb.cell (p := ⟨b, i * 4 + 1, none⟩) hb0).trans d1, (hb.cell (p := ⟨b, i * 4 + 2, none⟩) hb0).trans d2, (hb.cell (p := ⟨b, i * 4 + 3, none⟩) hb0).trans d3⟩, h1.trans (hb.mono h1.size), h2, h3⟩
theorem both_se_drew {a b i : Nat} {x : SeL} {wr W : World} (h : Both_se a b i x wr W) : Both_se a b i x wr W.drew := both_se_on h (Below.refl _ _).drew
theorem row_se {w : World} {p : Option Addr} {xs : List SeL} (h : RowC seC 4 w p xs) {i : Nat} (hi : i < xs.length) : ∃ g, p = some ⟨g, 0, none⟩ ∧ g < w.heap.size ∧ w.cell? ⟨g, i * 4, none⟩ = (seC xs[i])[0]? ∧ w.cell? ⟨g, i * 4 + 1, none⟩ = (seC xs[i])[1]? ∧ w.cell? ⟨g, i * 4 + 2, none⟩ = (seC xs[i])[2]? ∧ w.cell? ⟨g, i * 4 + 3, none⟩ = (seC xs[i])[3]? := by
  obtain ⟨g, h1, h2, h3⟩ := h (List.ne_nil_of_length_pos (by omega))
  exact ⟨g, h1, h2, h3 i hi 0 (by decide), h3 i hi 1 (by decide), h3 i hi 2 (by decide), h3 i hi 3 (by decide)⟩
set_option maxRecDepth 100000 in
set_option maxHeartbeats 2000000 in
theorem eqs_se (xs : List SeL) (p q : Option Addr) (c d : Nat) (w : World) (hn : xs.length ≤ 2000000) (hp : RowC seC 4 w p xs) (hq : RowC seC 4 w q xs) :
    Calls Try.prog 37 #[.slice p xs.length c, .slice q xs.length d] w fun e w' => e = .returned (.bool true) ∧ Below w.heap.size w w' := by
  obtain ⟨n, hxn⟩ : ∃ n, xs.length = n := ⟨_, rfl⟩
  have HP := Lib.hid hp
  have HQ := Lib.hid hq
  have HN := Lib.hid hxn
  rw [hxn] at hn ⊢
  clear hp hq hxn
  go_enter Try.func37, Try.ntmps37
  go_wp2
  go_loopw [5] (fun iq wr => ∃ i : Nat, i ≤ n ∧ iq = .int .i64 i ∧ Below w.heap.size w wr) (fun i _ => n - (intOf i).toNat)
  case atStart => exact ⟨0, Nat.zero_le _, rfl, Below.refl _ _⟩
  case round =>
    obtain ⟨i, hi, rfl, hb⟩ := hrel
    have HB := Lib.hid hb
    by_cases hlt : i < n
    · obtain ⟨a, rfl, ha, a0, a1, a2, a3⟩ := row_se HP.out (i := i) (by rw [HN.out]; exact hlt)
      obtain ⟨b, rfl, hb0, b0, b1, b2, b3⟩ := row_se HQ.out (i := i) (by rw [HN.out]; exact hlt)
      obtain ⟨x, hx⟩ : ∃ x, xs[i]'(by rw [HN.out]; exact hlt) = x := ⟨_, rfl⟩
      rw [hx] at a0 b0 a1 b1 a2 b2 a3 b3
      have HS : Hid (Both_se a b i x wr wr) := Lib.hid ⟨⟨⟨(hb.cell (p := ⟨a, i * 4, none⟩) ha).trans a0, (hb.cell (p := ⟨a, i * 4 + 1, none⟩) ha).trans a1, (hb.cell (p := ⟨a, i * 4 + 2, none⟩) ha).trans a2, (hb.cell (p := ⟨a, i * 4 + 3, none⟩) ha).trans a3⟩, (hb.cell (p := ⟨b, i * 4, none⟩) hb0).trans b0, (hb.cell (p := ⟨b, i * 4 + 1, none⟩) hb0).trans b1, (hb.cell (p := ⟨b, i * 4 + 2, none⟩) hb0).trans b2, (hb.cell (p := ⟨b, i * 4 + 3, none⟩) hb0).trans b3⟩, Below.refl _ _, Nat.lt_of_lt_of_le ha hb.size, Nat.lt_of_lt_of_le hb0 hb.size⟩
      clear hb a0 b0 a1 b1 a2 b2 a3 b3 hx ha hb0
      go_wp2
      go_region_held3 (fun W => ((W.cell? ⟨a, i * 4, none⟩ = some (.string x.r) ∧ W.cell? ⟨a, i * 4 + 1, none⟩ = some (.bool x.o) ∧ W.cell? ⟨a, i * 4 + 2, none⟩ = some (.int .i64 x.p) ∧ W.cell? ⟨a, i * 4 + 3, none⟩ = some (.string x.s)) ∧ (W.cell? ⟨b, i * 4, none⟩ = some (.string x.r) ∧ W.cell? ⟨b, i * 4 + 1, none⟩ = some (.bool x.o) ∧ W.cell? ⟨b, i * 4 + 2, none⟩ = some (.int .i64 x.p) ∧ W.cell? ⟨b, i * 4 + 3, none⟩ = some (.string x.s))) ∧ (Below wr.heap.size wr W ∧ a < wr.heap.size ∧ b < wr.heap.size))
        (with_reducible first | assumption | exact both_se_drew HS.out | exact both_se_on (by assumption) hbN)
        (first | (go_at_call 82; go_fit (eq_se x _); rintro e wn ⟨rfl, hbN⟩; have HF := Lib.hid (both_se_on (i := i) (wr := wr) (by assumption) hbN)))
      go_wp2
      go_roundw
      case rel => exact ⟨i + 1, by omega, by go_num, HB.out.trans (HF.out.2.1.mono HB.out.size)⟩
      case measure => simp [intOf]; omega
    · obtain rfl : i = n := by omega
      go_wp2
      go_ret
      exact ⟨rfl, HB.out⟩
end Go.Proofs.Ytkdljhmenejckaa
