/- The order of sessions: cmp.Compare on strings, impl.compareResources, impl.isIncreasing. -/
import Derived.Test.YtkdljhmenejckaaSeRow
import Derived.Deep.RegionHeld3
import Derived.IntWalk
import Derived.Laws.Cover1
import Derived.Deep.DeepFit
import Derived.Lib.SmallJoins
namespace Go.Proofs.Ytkdljhmenejckaa
set_option linter.unusedSimpArgs false
set_option linter.unusedVariables false
open Go.RowKit

theorem nan_str (s : ByteArray) (w : World) : Calls Try.prog 125 #[.string s] w fun e w' => e = .returned (.bool false) ∧ w = w' := by
  go_enter Try.func125, Try.ntmps125
  go_wp2
  go_ret
  exact ⟨ret_bool (by simp), rfl⟩
/-- What comparing two texts answers. -/
def cmpI (a b : ByteArray) : Int := if Op.bytesLess a.toList b.toList then -1 else if a.toList == b.toList then 0 else 1
theorem cmp_str (a b : ByteArray) (w : World) : Calls Try.prog 105 #[.string a, .string b] w fun e w' => e = .returned (.int .i64 (cmpI a b)) ∧ w = w' := by
  obtain ⟨b1, h1⟩ : ∃ b1, Op.bytesLess a.toList b.toList = b1 := ⟨_, rfl⟩
  obtain ⟨b2, h2⟩ : ∃ b2, (a.toList == b.toList) = b2 := ⟨_, rfl⟩
  unfold cmpI
  rw [h1, h2]
  have H1 := h1
  have H2 := h2
  cases b1 <;> cases b2 <;>
    (go_enter Try.func105, Try.ntmps105
     go_wp2_with (go_at_call 125; go_fit (nan_str _ _); rintro e w' ⟨rfl, rfl⟩)
     go_ret
     exact ⟨rfl, rfl⟩)
set_option maxHeartbeats 1000000 in
theorem cmp_res (x y : SeL) (w : World) : Calls Try.prog 75 #[seV x, seV y] w fun e w' => e = .returned (.int .i64 (cmpI x.r y.r)) ∧ Below w.heap.size w w' := by
  unfold seV
  obtain ⟨z, hz⟩ : ∃ z, cmpI x.r y.r = z := ⟨_, rfl⟩
  have i1 := fun W => cmp_str x.r y.r W
  rw [hz] at i1 ⊢
  go_enter Try.func75, Try.ntmps75
  go_wp2_with (go_at_call 105; go_fit (i1 _); rintro e w' ⟨rfl, rfl⟩)
  go_ret
  exact ⟨rfl, ((Below.refl _ _).alloc (Nat.le_refl _) _).alloc (by simp) _⟩
theorem cmp_neg {a b : ByteArray} : (cmpI a b < 0) ↔ Op.bytesLess a.toList b.toList = true := by
  unfold cmpI
  cases Op.bytesLess a.toList b.toList <;> cases a.toList == b.toList <;> simp
theorem cmp_zero {a b : ByteArray} : (cmpI a b = 0) ↔ a.toList = b.toList := by
  unfold cmpI
  constructor
  · intro h
    cases h1 : Op.bytesLess a.toList b.toList
    · cases h2 : a.toList == b.toList
      · rw [h1, h2] at h; simp at h
      · simpa using h2
    · rw [h1] at h; simp at h
  · intro h
    rw [h, sl_self]
    simp
/-- Two neighbours of a row. -/
abbrev Two_se (g k : Nat) (x y : SeL) (wr W : World) : Prop := (((W.cell? ⟨g, k * 4, none⟩ = some (.string x.r) ∧ W.cell? ⟨g, k * 4 + 1, none⟩ = some (.bool x.o) ∧ W.cell? ⟨g, k * 4 + 2, none⟩ = some (.int .i64 x.p) ∧ W.cell? ⟨g, k * 4 + 3, none⟩ = some (.string x.s)) ∧
  (W.cell? ⟨g, (k + 1) * 4, none⟩ = some (.string y.r) ∧ W.cell? ⟨g, (k + 1) * 4 + 1, none⟩ = some (.bool y.o) ∧ W.cell? ⟨g, (k + 1) * 4 + 2, none⟩ = some (.int .i64 y.p) ∧ W.cell? ⟨g, (k + 1) * 4 + 3, none⟩ = some (.string y.s))) ∧ (Below wr.heap.size wr W ∧ g < wr.heap.size))
theorem two_se_on {g k : Nat} {x y : SeL} {wr W W2 : World} (h : Two_se g k x y wr W) (hb : Below W.heap.size W W2) : Two_se g k x y wr W2 := by
  obtain ⟨⟨⟨c0, c1, c2, c3⟩, d0, d1, d2, d3⟩, h1, h2⟩ := h
  have ha : g < W.heap.size := Nat.lt_of_lt_of_le h2 h1.size
  exact ⟨⟨⟨(hb.cell (p := ⟨g, k * 4, none⟩) ha).trans c0, (hb.cell (p := ⟨g, k * 4 + 1, none⟩) ha).trans c1, (hb.cell (p := ⟨g, k * 4 + 2, none⟩) ha).trans c2, (hb.cell (p := ⟨g, k * 4 + 3, none⟩) ha).trans c3⟩,
    (hb.cell (p := ⟨g, (k + 1) * 4, none⟩) ha).trans d0, (hb.cell (p := ⟨g, (k + 1) * 4 + 1, none⟩) ha).trans d1, (hb.cell (p := ⟨g, (k + 1) * 4 + 2, none⟩) ha).trans d2, (hb.cell (p := ⟨g, (k + 1) * 4 + 3, none⟩) ha).trans d3⟩, h1.trans (hb.mono h1.size), h2⟩
theorem two_se_drew {g k : Nat} {x y : SeL} {wr W : World} (h : Two_se g k x y wr W) : Two_se g k x y wr W.drew := two_se_on h (Below.refl _ _).drew
set_option maxRecDepth 100000 in
set_option maxHeartbeats 2000000 in
theorem impl_inc (xs : List SeL) (p : Option Addr) (c : Nat) (w : World) (hn : xs.length ≤ 1048576) (hR : RowC seC 4 w p xs) :
    Calls Try.prog 74 #[.slice p xs.length c, .func (.func 75) #[] #[]] w fun e w' => e = .returned (.bool (incB xs)) ∧ Below w.heap.size w w' := by
  obtain ⟨n, hxn⟩ : ∃ n, xs.length = n := ⟨_, rfl⟩
  have HP := Lib.hid (fun W (h : Below w.heap.size w W) => hR.on h)
  have HN := Lib.hid hxn
  obtain ⟨Z, hZ⟩ : ∃ Z, incB xs = Z := ⟨_, rfl⟩
  have HZ := Lib.hid hZ
  rw [hxn] at hn ⊢
  rw [hZ]
  clear hR hxn hZ
  go_enter Try.func74, Try.ntmps74
  go_wp2
  go_loopw [5] (fun iq wr => ∃ k : Nat, (k + 1 ≤ n ∨ k = 0) ∧ iq = .int .i64 ((k : Int) + 1) ∧ IncR xs (k + 1) ∧ Below w.heap.size w wr) (fun i _ => n + 1 - (intOf i).toNat)
  case atStart => exact ⟨0, .inr rfl, rfl, incR_zero xs, Below.refl _ _⟩
  case round =>
    obtain ⟨k, hk, rfl, hI, hb⟩ := hrel
    have HI := Lib.hid hI
    have HB := Lib.hid hb
    clear hI
    have hk2 : (k : Int) ≤ 1048576 := by omega
    by_cases hlt : k + 1 < n
    · have hlt1 : k < xs.length := by rw [HN.out]; omega
      have hlt2 : k + 1 < xs.length := by rw [HN.out]; exact hlt
      obtain ⟨g, rfl, hg, a0, a1, a2, a3⟩ := row_se4 (HP.out _ hb) hlt1
      obtain ⟨g', he, hg', b0, b1, b2, b3⟩ := row_se4 (HP.out _ hb) hlt2
      injection he with he
      injection he with he
      subst he
      obtain ⟨x, hx⟩ : ∃ x, xs[k] = x := ⟨_, rfl⟩
      obtain ⟨y, hy⟩ : ∃ y, xs[k + 1] = y := ⟨_, rfl⟩
      have HX := Lib.hid hx
      have HY := Lib.hid hy
      rw [hx] at a0 a1 a2 a3
      rw [hy] at b0 b1 b2 b3
      have HS : Hid (Two_se g k x y wr wr) := Lib.hid ⟨⟨⟨a0, a1, a2, a3⟩, b0, b1, b2, b3⟩, Below.refl _ _, hg⟩
      have i1 := fun W => cmp_res x y W
      unfold seV at i1
      obtain ⟨z, hz⟩ : ∃ z, cmpI x.r y.r = z := ⟨_, rfl⟩
      have HC := Lib.hid hz
      rw [hz] at i1
      clear hb a0 a1 a2 a3 b0 b1 b2 b3 hx hy hg hg' hz
      have hw1 : IntKind.i64.wrap ((k : Int) + 1 - 1) = (k : Int) := by rw [IntWalk.i64_in _ (by omega)]; omega
      have hw2 : IntKind.i64.wrap (k : Int) = (k : Int) := IntWalk.i64_in _ (by omega)
      have q1 : (0 : Int) ≤ (k : Int) := by omega
      have q2 : (k : Int) < (n : Int) := by omega
      have q3 : (0 : Int) ≤ (k : Int) + 1 := by omega
      have q4 : (k : Int) + 1 < (n : Int) := by omega
      go_wp2
      go_region_held3 (fun W => (((W.cell? ⟨g, k * 4, none⟩ = some (.string x.r) ∧ W.cell? ⟨g, k * 4 + 1, none⟩ = some (.bool x.o) ∧ W.cell? ⟨g, k * 4 + 2, none⟩ = some (.int .i64 x.p) ∧ W.cell? ⟨g, k * 4 + 3, none⟩ = some (.string x.s)) ∧
        (W.cell? ⟨g, (k + 1) * 4, none⟩ = some (.string y.r) ∧ W.cell? ⟨g, (k + 1) * 4 + 1, none⟩ = some (.bool y.o) ∧ W.cell? ⟨g, (k + 1) * 4 + 2, none⟩ = some (.int .i64 y.p) ∧ W.cell? ⟨g, (k + 1) * 4 + 3, none⟩ = some (.string y.s))) ∧ (Below wr.heap.size wr W ∧ g < wr.heap.size)))
        (with_reducible first | assumption | exact two_se_drew HS.out | exact two_se_on (by assumption) hbN)
        (first | (go_at_call 75; go_fit (i1 _); rintro e wn ⟨rfl, hbN⟩; have HF := Lib.hid (two_se_on (g := g) (k := k) (wr := wr) (by assumption) hbN)))
      have HB2 := Lib.hid (HB.out.trans (HF.out.2.1.mono HB.out.size))
      by_cases hneg : z < 0
      · have hn0 : ¬ (0 : Int) ≤ z := by omega
        have hl := cmp_neg.1 (show cmpI x.r y.r < 0 by rw [HC.out]; exact hneg)
        have HL := Lib.hid hl
        clear hl
        go_wp2
        go_roundw
        case rel => exact ⟨k + 1, .inl (by omega), by go_num, incR_succ HI.out hlt2 (fun _ h' => by
          simp only [Nat.add_sub_cancel]
          rw [HX.out, HY.out]
          exact HL.out), HB2.out⟩
        case measure => simp [intOf]; omega
      · have hn0 : (0 : Int) ≤ z := by omega
        have HN0 := Lib.hid hneg
        clear hneg
        have HL : Hid (Z = false) := Lib.hid (by
          rw [← HZ.out]
          refine incB_false (fun h => HN0.out ?_)
          rw [← HC.out]
          have := h (k + 1) hlt2 (by omega) hlt2 hlt1
          simp only [Nat.add_sub_cancel] at this
          rw [HX.out, HY.out] at this
          exact cmp_neg.2 this)
        go_wp2
        go_ret
        exact ⟨ret_bool HL.out.symm, HB2.out⟩
    · have HL : Hid (Z = true) := Lib.hid (by
        rw [← HZ.out]
        refine incB_true (fun i hi h0 h1 h' => HI.out i hi h0 ?_ h')
        rw [HN.out] at hi
        omega)
      clear hb
      go_wp2
      go_ret
      exact ⟨ret_bool HL.out.symm, HB.out⟩
end Go.Proofs.Ytkdljhmenejckaa
