/- The order of sessions: cmp.Compare on strings, impl.compareResources, impl.isIncreasing. -/
import Derived.Test.YtpjmcpfmnlfmdaaSeRow
import Derived.Deep.RegionHeld3
import Derived.IntWalk
import Derived.Laws.Cover1
import Derived.Deep.DeepFit
import Derived.Lib.SmallJoins
namespace Go.Proofs.Ytpjmcpfmnlfmdaa
set_option linter.unusedSimpArgs false
set_option linter.unusedVariables false
open Go.RowKit

theorem nan_str (s : ByteArray) (w : World) : Calls Try.prog 86 #[.string s] w fun e w' => e = .returned (.bool false) ∧ w = w' := by
  go_enter Try.func86, Try.ntmps86
  go_wp2
  go_ret
  exact ⟨ret_bool (by simp), rfl⟩
/-- What comparing two texts answers. -/
def cmpI (a b : ByteArray) : Int := if Op.bytesLess a.toList b.toList then -1 else if a.toList == b.toList then 0 else 1
theorem cmp_str (a b : ByteArray) (w : World) : Calls Try.prog 59 #[.string a, .string b] w fun e w' => e = .returned (.int .i64 (cmpI a b)) ∧ w = w' := by
  obtain ⟨b1, h1⟩ : ∃ b1, Op.bytesLess a.toList b.toList = b1 := ⟨_, rfl⟩
  obtain ⟨b2, h2⟩ : ∃ b2, (a.toList == b.toList) = b2 := ⟨_, rfl⟩
  unfold cmpI
  rw [h1, h2]
  have H1 := h1
  have H2 := h2
  cases b1 <;> cases b2 <;>
    (go_enter Try.func59, Try.ntmps59
     go_wp2_with (go_at_call 86; go_fit (nan_str _ _); rintro e w' ⟨rfl, rfl⟩)
     go_ret
     exact ⟨rfl, rfl⟩)
theorem cmp_neg {a b : ByteArray} : (cmpI a b < 0) ↔ Op.bytesLess a.toList b.toList = true := by
  unfold cmpI
  cases Op.bytesLess a.toList b.toList <;> cases a.toList == b.toList <;> simp
theorem cmp_zero {a b : ByteArray} : (cmpI a b = 0) ↔ a.toList = b.toList := by
  unfold cmpI
  constructor
  · intro h
    cases h1 : Op.bytesLess a.toList b.toList
    · cases h2 : a.toList == b.toList
      · rw [h1, h2] at h; simp at h
      · simpa using h2
    · rw [h1] at h; simp at h
  · intro h
    rw [h, sl_self]
    simp
/-- Two neighbours of a row. -/
abbrev Two_se (g k : Nat) (x y : SeL) (wr W : World) : Prop := (((W.cell? ⟨g, k * 4, none⟩ = some (.string x.r) ∧ W.cell? ⟨g, k * 4 + 1, none⟩ = some (.bool x.o) ∧ W.cell? ⟨g, k * 4 + 2, none⟩ = some (.int .i64 x.p) ∧ W.cell? ⟨g, k * 4 + 3, none⟩ = some (.string x.s)) ∧
  (W.cell? ⟨g, (k + 1) * 4, none⟩ = some (.string y.r) ∧ W.cell? ⟨g, (k + 1) * 4 + 1, none⟩ = some (.bool y.o) ∧ W.cell? ⟨g, (k + 1) * 4 + 2, none⟩ = some (.int .i64 y.p) ∧ W.cell? ⟨g, (k + 1) * 4 + 3, none⟩ = some (.string y.s))) ∧ (Below wr.heap.size wr W ∧ g < wr.heap.size))
theorem two_se_on {g k : Nat} {x y : SeL} {wr W W2 : World} (h : Two_se g k x y wr W) (hb : Below W.heap.size W W2) : Two_se g k x y wr W2 := by
  obtain ⟨⟨⟨c0, c1, c2, c3⟩, d0, d1, d2, d3⟩, h1, h2⟩ := h
  have ha : g < W.heap.size := Nat.lt_of_lt_of_le h2 h1.size
  exact ⟨⟨⟨(hb.cell (p := ⟨g, k * 4, none⟩) ha).trans c0, (hb.cell (p := ⟨g, k * 4 + 1, none⟩) ha).trans c1, (hb.cell (p := ⟨g, k * 4 + 2, none⟩) ha).trans c2, (hb.cell (p := ⟨g, k * 4 + 3, none⟩) ha).trans c3⟩,
    (hb.cell (p := ⟨g, (k + 1) * 4, none⟩) ha).trans d0, (hb.cell (p := ⟨g, (k + 1) * 4 + 1, none⟩) ha).trans d1, (hb.cell (p := ⟨g, (k + 1) * 4 + 2, none⟩) ha).trans d2, (hb.cell (p := ⟨g, (k + 1) * 4 + 3, none⟩) ha).trans d3⟩, h1.trans (hb.mono h1.size), h2⟩
theorem two_se_drew {g k : Nat} {x y : SeL} {wr W : World} (h : Two_se g k x y wr W) : Two_se g k x y wr W.drew := two_se_on h (Below.refl _ _).drew
end Go.Proofs.Ytpjmcpfmnlfmdaa
