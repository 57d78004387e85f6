/- impl.Anyone, spec.Anyone. -/
import Derived.Test.YtkdljhmenejckaaSeRightS
namespace Go.Proofs.Ytkdljhmenejckaa
set_option linter.unusedSimpArgs false
set_option linter.unusedVariables false
open Go.RowKit

def NoOn (xs : List SeL) (k : Nat) : Prop := ∀ i (h : i < xs.length), i < k → xs[i].o = false
theorem noOn_zero (xs : List SeL) : NoOn xs 0 := fun i _ h => absurd h (Nat.not_lt_zero _)
theorem noOn_succ {xs : List SeL} {k : Nat} (h : NoOn xs k) (hk : k < xs.length) (h1 : xs[k].o = false) : NoOn xs (k + 1) := by
  intro i hi hlt
  by_cases e : i = k
  · subst e; exact h1
  · exact h i hi (by omega)
theorem any_no {xs : List SeL} {k : Nat} (h : NoOn xs k) (hk : ¬ k < xs.length) : anyS xs = false := by
  unfold anyS
  rw [List.any_eq_false]
  intro x hx
  obtain ⟨i, hi, rfl⟩ := List.mem_iff_getElem.1 hx
  rw [h i hi (by omega)]
  decide
theorem any_yes {xs : List SeL} {k : Nat} (hk : k < xs.length) (h : xs[k].o = true) : anyS xs = true := by
  unfold anyS
  exact List.any_eq_true.2 ⟨xs[k], List.getElem_mem hk, h⟩
theorem impl_ison (x : SeL) (w : World) : Calls Try.prog 72 #[seV x] w fun e w' => e = .returned (.bool x.o) ∧ Below w.heap.size w w' := by
  unfold seV
  go_enter Try.func72, Try.ntmps72
  go_wp2
  go_ret
  exact ⟨rfl, (Below.refl _ _).alloc (Nat.le_refl _) _⟩
set_option maxRecDepth 100000 in
set_option maxHeartbeats 1000000 in
theorem impl_indexf (xs : List SeL) (p : Option Addr) (c : Nat) (w : World) (hn : xs.length ≤ 1048576) (hR : RowC seC 4 w p xs) :
    Calls Try.prog 101 #[.slice p xs.length c, .func (.func 72) #[] #[]] w fun e w' => (∃ z, e = .returned (.int .i64 z) ∧ decide (0 ≤ z) = anyS xs) ∧ Below w.heap.size w w' := by
  obtain ⟨n, hxn⟩ : ∃ n, xs.length = n := ⟨_, rfl⟩
  have HP := Lib.hid (fun W (h : Below w.heap.size w W) => hR.on h)
  have HN := Lib.hid hxn
  rw [hxn] at hn ⊢
  clear hR hxn
  go_enter Try.func101, Try.ntmps101
  go_wp2
  go_loopw [8] (fun iq wr => ∃ k : Nat, k ≤ n ∧ iq = .int .i64 k ∧ NoOn xs k ∧ Below w.heap.size w wr) (fun i _ => n - (intOf i).toNat)
  case atStart => exact ⟨0, Nat.zero_le _, rfl, noOn_zero xs, Below.refl _ _⟩
  case round =>
    obtain ⟨k, hk, rfl, hA, hb⟩ := hrel
    have HA := Lib.hid hA
    have HB := Lib.hid hb
    clear hA
    by_cases hlt : k < n
    · have hlt1 : k < xs.length := by rw [HN.out]; exact hlt
      obtain ⟨g, rfl, hg, a0, a1, a2, a3⟩ := row_se4 (HP.out _ hb) hlt1
      obtain ⟨x, hx⟩ : ∃ x, xs[k] = x := ⟨_, rfl⟩
      rw [hx] at a0 a1 a2 a3
      obtain ⟨r, o, p, s⟩ := x
      have i3 := fun W => impl_ison ⟨r, o, p, s⟩ W
      unfold seV at i3
      have HX : Hid (xs[k].o = o) := Lib.hid (by rw [hx])
      clear hb hx
      dsimp only at a0 a1 a2 a3 i3
      cases o
      · go_wp2_with (go_at_call 72; go_fit (i3 _); rintro e w2 ⟨rfl, hb2⟩)
        go_roundw
        case rel => exact ⟨k + 1, by omega, by go_num, noOn_succ HA.out hlt1 HX.out, HB.out.trans (hb2.mono HB.out.size)⟩
        case measure => simp [intOf]; omega
      · go_wp2_with (go_at_call 72; go_fit (i3 _); rintro e w2 ⟨rfl, hb2⟩)
        go_ret
        exact ⟨⟨_, rfl, by rw [any_yes hlt1 HX.out]; simp⟩, HB.out.trans (hb2.mono HB.out.size)⟩
    · have HL := Lib.hid (any_no HA.out (by rw [HN.out]; exact hlt))
      clear hb
      go_wp2
      go_ret
      exact ⟨⟨_, rfl, by rw [HL.out]; decide⟩, HB.out⟩
set_option maxHeartbeats 1000000 in
theorem impl_contains (xs : List SeL) (p : Option Addr) (c : Nat) (w : World) (hn : xs.length ≤ 1048576) (hR : RowC seC 4 w p xs) :
    Calls Try.prog 71 #[.slice p xs.length c, .func (.func 72) #[] #[]] w fun e w' => e = .returned (.bool (anyS xs)) ∧ Below w.heap.size w w' := by
  have i1 := impl_indexf xs p c w hn hR
  clear hR
  go_enter Try.func71, Try.ntmps71
  go_wp2_with (go_at_call 101; go_fit i1; rintro e w2 ⟨⟨z, rfl, hz⟩, hb⟩; have HZ := Lib.hid hz; clear hz)
  go_ret
  exact ⟨ret_bool HZ.out, hb⟩
set_option maxHeartbeats 1000000 in
theorem impl_any (xs : List SeL) (p : Option Addr) (c : Nat) (w : World) (hn : xs.length ≤ 1048576) (hw : ∀ x ∈ xs, x.r.size ≤ maxLen) (hR : RowC seC 4 w p xs) :
    Calls Try.prog 22 #[.slice p xs.length c] w fun e w' => e = .returned (.bool (anyR xs)) ∧ Below w.heap.size w w' := by
  have i1 := impl_seright xs p c w hn hw hR
  have i2 := fun W h => impl_contains xs p c W hn h
  have HR := Lib.hid (fun W (h : Below w.heap.size w W) => hR.on h)
  unfold anyR
  obtain ⟨b1, h1⟩ : ∃ b, okB xs = b := ⟨_, rfl⟩
  obtain ⟨b2, h2⟩ : ∃ b, anyS xs = b := ⟨_, rfl⟩
  rw [h1] at i1
  rw [h2] at i2
  rw [h1, h2]
  clear h1 h2 hR hw
  cases b1
  · go_enter Try.func22, Try.ntmps22
    go_wp2_with (go_at_call 27; go_fit i1; rintro e w2 ⟨rfl, hb⟩)
    go_ret
    exact ⟨ret_bool (by simp), hb⟩
  · go_enter Try.func22, Try.ntmps22
    go_wp2_with (first
      | (go_at_call 27; go_fit i1; rintro e w2 ⟨rfl, hb⟩; have HB := Lib.hid hb; clear hb)
      | (go_at_call 71; go_fit (i2 _ (HR.out _ HB.out)); rintro e w3 ⟨rfl, hb2⟩))
    go_ret
    exact ⟨ret_bool (by simp), HB.out.trans (hb2.mono HB.out.size)⟩
set_option maxRecDepth 100000 in
set_option maxHeartbeats 1000000 in
theorem spec_any (xs : List SeL) (p : Option Addr) (c : Nat) (w : World) (hn : xs.length ≤ 1048576) (hw : ∀ x ∈ xs, x.r.size ≤ maxLen) (hR : RowC seC 4 w p xs) :
    Calls Try.prog 26 #[.slice p xs.length c] w fun e w' => e = .returned (.bool (anyR xs)) ∧ Below w.heap.size w w' := by
  have i1 := spec_seright xs p c w hn hw hR
  obtain ⟨n, hxn⟩ : ∃ n, xs.length = n := ⟨_, rfl⟩
  have HP := Lib.hid (fun W (h : Below w.heap.size w W) => hR.on h)
  have HN := Lib.hid hxn
  unfold anyR
  obtain ⟨b1, h1⟩ : ∃ b, okB xs = b := ⟨_, rfl⟩
  rw [h1] at i1 ⊢
  rw [hxn] at hn i1 ⊢
  obtain ⟨Z, hZ⟩ : ∃ b, anyS xs = b := ⟨_, rfl⟩
  have HZ := Lib.hid hZ
  rw [hZ]
  clear hR hxn h1 hZ hw
  cases b1
  · go_enter Try.func26, Try.ntmps26
    go_wp2_with (go_at_call 28; go_fit i1; rintro e w2 ⟨rfl, hb⟩)
    go_ret
    exact ⟨ret_bool (by simp), hb⟩
  go_enter Try.func26, Try.ntmps26
  go_wp2_with (go_at_call 28; go_fit i1; rintro e w1 ⟨rfl, hb⟩; have HB1 := Lib.hid hb; clear hb)
  go_loopw [3] (fun iq wr => ∃ k : Nat, k ≤ n ∧ iq = .int .i64 k ∧ NoOn xs k ∧ Below w.heap.size w wr) (fun i _ => n - (intOf i).toNat)
  case atStart => exact ⟨0, Nat.zero_le _, rfl, noOn_zero xs, HB1.out⟩
  case round =>
    obtain ⟨k, hk, rfl, hA, hb⟩ := hrel
    have HA := Lib.hid hA
    have HB := Lib.hid hb
    clear hA
    by_cases hlt : k < n
    · have hlt1 : k < xs.length := by rw [HN.out]; exact hlt
      obtain ⟨g, rfl, hg, a0, a1, a2, a3⟩ := row_se4 (HP.out _ hb) hlt1
      obtain ⟨x, hx⟩ : ∃ x, xs[k] = x := ⟨_, rfl⟩
      rw [hx] at a0 a1 a2 a3
      obtain ⟨r, o, p, s⟩ := x
      have HX : Hid (xs[k].o = o) := Lib.hid (by rw [hx])
      clear hb hx
      dsimp only at a0 a1 a2 a3
      cases o
      · go_wp2
        go_roundw
        case rel => exact ⟨k + 1, by omega, by go_num, noOn_succ HA.out hlt1 HX.out, HB.out⟩
        case measure => simp [intOf]; omega
      · have HL : Hid (Z = true) := Lib.hid (by rw [← HZ.out]; exact any_yes hlt1 HX.out)
        go_wp2
        go_ret
        exact ⟨ret_bool (by rw [HL.out]; simp), HB.out⟩
    · have HL : Hid (Z = false) := Lib.hid (by rw [← HZ.out]; exact any_no HA.out (by rw [HN.out]; exact hlt))
      clear hb
      go_wp2
      go_ret
      exact ⟨ret_bool (by rw [HL.out]; simp), HB.out⟩
end Go.Proofs.Ytkdljhmenejckaa
