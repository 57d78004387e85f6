/- impl.sessionRight, impl.SessionsRight. -/
import Derived.Test.YtkdljhmenejckaaSeSmall
namespace Go.Proofs.Ytkdljhmenejckaa
set_option linter.unusedSimpArgs false
set_option linter.unusedVariables false
open Go.RowKit

theorem nonempty_facts {s : ByteArray} (h : ¬ s.size = 0) : s.toList ≠ [] ∧ s.toList.isEmpty = false := ⟨fun e => h (empty_size.1 e), by rw [isEmpty_size, decide_eq_false h]⟩
theorem boxS {w w1 : World} {a b c d : Value} {t : Nat} (h : Below (w.alloc (.cells #[a, b, c, d] t)).heap.size (w.alloc (.cells #[a, b, c, d] t)) w1) : (w1.cell? ⟨w.heap.size, 0, none⟩ = some a ∧ w1.cell? ⟨w.heap.size, 1, none⟩ = some b ∧ w1.cell? ⟨w.heap.size, 2, none⟩ = some c ∧ w1.cell? ⟨w.heap.size, 3, none⟩ = some d) ∧ Below w.heap.size w w1 := by
  have hA : Arr w1 w.heap.size t [a, b, c, d] := (h.block w.heap.size (by simp)).trans (Arr.fresh w t [a, b, c, d])
  exact ⟨⟨hA.cell 0, hA.cell 1, hA.cell 2, hA.cell 3⟩, ((Below.refl _ _).alloc (Nat.le_refl _) _).trans (h.mono (by simp))⟩
set_option maxHeartbeats 4000000 in
theorem impl_se (x : SeL) (w : World) (hr : x.r.size ≤ maxLen) : Calls Try.prog 76 #[seV x] w fun e w' => e = .returned (.bool (seB x)) ∧ Below w.heap.size w w' := by
  obtain ⟨r, o, p, s⟩ := x
  have i1 := fun W => impl_res9 r W hr
  have i2 := fun W => impl_show9 s W
  unfold seB seV
  dsimp only at hr ⊢
  obtain ⟨b1, h1⟩ : ∃ b, resB r = b := ⟨_, rfl⟩
  obtain ⟨b2, h2⟩ : ∃ b, showB s = b := ⟨_, rfl⟩
  rw [h1] at i1 ⊢
  rw [h2] at i2 ⊢
  have HB2 := Lib.hid h2
  clear h1 h2 hr
  cases o
  · by_cases hp : p = 0
    · subst hp
      by_cases hs : s.size = 0
      · obtain rfl := size_zero hs
        have e : showB ByteArray.empty = true := by unfold showB; rw [ByteArray.toList_eq]; decide
        rw [HB2.out] at e
        subst e
        clear hs
        cases b1 <;>
          (go_enter Try.func76, Try.ntmps76
           go_wp2_with (first
             | (go_at_call 58; go_fit (i1 _); rintro e w' ⟨rfl, rfl⟩)
             | (go_at_call 106; go_fit (i2 _); rintro e w' ⟨rfl, rfl⟩))
           go_ret
           exact ⟨ret_bool (by simp; try rfl), (Below.refl _ _).alloc (Nat.le_refl _) _⟩)
      · obtain ⟨q1, q2⟩ := nonempty_facts hs
        rw [decide_eq_false hs]
        go_enter Try.func76, Try.ntmps76
        go_wp2
        go_ret
        exact ⟨ret_bool (by simp), (Below.refl _ _).alloc (Nat.le_refl _) _⟩
    · have q1 : (p != 0) = true := by simpa using hp
      rw [decide_eq_false hp]
      go_enter Try.func76, Try.ntmps76
      go_wp2
      go_ret
      exact ⟨ret_bool (by simp), (Below.refl _ _).alloc (Nat.le_refl _) _⟩
  · rcases (by omega : p < -128 ∨ (-128 ≤ p ∧ p ≤ 127) ∨ 127 < p) with hp | ⟨hp, hq⟩ | hp
    · rw [decide_eq_false (show ¬ -128 ≤ p by omega)]
      cases b1 <;>
        (go_enter Try.func76, Try.ntmps76
         go_wp2_with (first
           | (go_at_call 58; go_fit (i1 _); rintro e w' ⟨rfl, rfl⟩)
           | (go_at_call 106; go_fit (i2 _); rintro e w' ⟨rfl, rfl⟩))
         go_ret
         exact ⟨ret_bool (by simp), (Below.refl _ _).alloc (Nat.le_refl _) _⟩)
    · rw [decide_eq_true hp, decide_eq_true hq]
      cases b1 <;>
        (go_enter Try.func76, Try.ntmps76
         go_wp2_with (first
           | (go_at_call 58; go_fit (i1 _); rintro e w' ⟨rfl, rfl⟩)
           | (go_at_call 106; go_fit (i2 _); rintro e w' ⟨rfl, rfl⟩))
         go_ret
         exact ⟨ret_bool (by simp), (Below.refl _ _).alloc (Nat.le_refl _) _⟩)
    · rw [decide_eq_false (show ¬ p ≤ 127 by omega)]
      have hq : -128 ≤ p := by omega
      cases b1 <;>
        (go_enter Try.func76, Try.ntmps76
         go_wp2_with (first
           | (go_at_call 58; go_fit (i1 _); rintro e w' ⟨rfl, rfl⟩)
           | (go_at_call 106; go_fit (i2 _); rintro e w' ⟨rfl, rfl⟩))
         go_ret
         exact ⟨ret_bool (by simp), (Below.refl _ _).alloc (Nat.le_refl _) _⟩)
set_option maxRecDepth 100000 in
set_option maxHeartbeats 1000000 in
theorem impl_seright (xs : List SeL) (p : Option Addr) (c : Nat) (w : World) (hn : xs.length ≤ 1048576) (hw : ∀ x ∈ xs, x.r.size ≤ maxLen) (hR : RowC seC 4 w p xs) :
    Calls Try.prog 27 #[.slice p xs.length c] w fun e w' => e = .returned (.bool (okB xs)) ∧ Below w.heap.size w w' := by
  have i1 := impl_inc xs p c w hn hR
  obtain ⟨n, hxn⟩ : ∃ n, xs.length = n := ⟨_, rfl⟩
  have HP := Lib.hid (fun W (h : Below w.heap.size w W) => hR.on h)
  have HW := Lib.hid hw
  have HN := Lib.hid hxn
  obtain ⟨b1, h1⟩ : ∃ b, incB xs = b := ⟨_, rfl⟩
  rw [hxn] at hn i1 ⊢
  rw [h1] at i1
  have H1 := Lib.hid h1
  obtain ⟨Z, hZ⟩ : ∃ Z, okB xs = Z := ⟨_, rfl⟩
  have HZ := Lib.hid hZ
  rw [hZ]
  clear hR hw hxn h1 hZ
  by_cases hbig : 5 < n
  · have HL : Hid (Z = false) := Lib.hid (by rw [← HZ.out]; exact okB_false (fun h => by have := h.1; rw [HN.out] at this; omega))
    go_enter Try.func27, Try.ntmps27
    go_wp2
    go_ret
    exact ⟨ret_bool HL.out.symm, Below.refl _ _⟩
  cases b1
  · have HL : Hid (Z = false) := Lib.hid (by rw [← HZ.out]; exact okB_false (fun h => by have := incB_true h.2.1; rw [H1.out] at this; cases this))
    go_enter Try.func27, Try.ntmps27
    go_wp2_with (go_at_call 74; go_fit i1; rintro e w' ⟨rfl, hb⟩)
    go_ret
    exact ⟨ret_bool HL.out.symm, hb⟩
  go_enter Try.func27, Try.ntmps27
  go_wp2_with (go_at_call 74; go_fit i1; rintro e w1 ⟨rfl, hb⟩; have HB1 := Lib.hid hb; clear hb)
  go_loopw [14] (fun iq wr => ∃ k : Nat, k ≤ n ∧ iq = .int .i64 k ∧ AllR xs k ∧ Below w.heap.size w wr) (fun i _ => n - (intOf i).toNat)
  case atStart => exact ⟨0, Nat.zero_le _, rfl, allR_zero xs, HB1.out⟩
  case round =>
    obtain ⟨k, hk, rfl, hA, hb⟩ := hrel
    have HA := Lib.hid hA
    have HB := Lib.hid hb
    clear hA
    by_cases hlt : k < n
    · have hlt1 : k < xs.length := by rw [HN.out]; exact hlt
      obtain ⟨g, rfl, hg, a0, a1, a2, a3⟩ := row_se4 (HP.out _ hb) hlt1
      have hxw := HW.out _ (List.getElem_mem hlt1)
      obtain ⟨x, hx⟩ : ∃ x, xs[k] = x := ⟨_, rfl⟩
      rw [hx] at a0 a1 a2 a3 hxw
      have i3 := fun W => impl_se x W hxw
      obtain ⟨b3, h3⟩ : ∃ b, seB x = b := ⟨_, rfl⟩
      rw [h3] at i3
      unfold seV at i3
      have H3 : Hid (seB xs[k] = b3) := Lib.hid (by rw [hx]; exact h3)
      clear hb hx h3 hxw
      cases b3
      · have HL : Hid (Z = false) := Lib.hid (by rw [← HZ.out]; exact okB_false (fun h => by have := h.2.2 k hlt1 hlt1; rw [H3.out] at this; cases this))
        go_wp2_with (go_at_call 76; go_fit (i3 _); rintro e w2 ⟨rfl, hb2⟩)
        go_ret
        exact ⟨ret_bool HL.out.symm, HB.out.trans (hb2.mono HB.out.size)⟩
      · go_wp2_with (go_at_call 76; go_fit (i3 _); rintro e w2 ⟨rfl, hb2⟩)
        go_roundw
        case rel => exact ⟨k + 1, by omega, by go_num, allR_succ HA.out hlt1 H3.out, HB.out.trans (hb2.mono HB.out.size)⟩
        case measure => simp [intOf]; omega
    · have HL : Hid (Z = true) := Lib.hid (by
        rw [← HZ.out]
        refine okB_true ⟨by rw [HN.out]; omega, incB_iff.1 H1.out, fun i hi h0 => HA.out i hi ?_⟩
        rw [HN.out] at hi
        omega)
      clear hb
      go_wp2
      go_ret
      exact ⟨ret_bool HL.out.symm, HB.out⟩
end Go.Proofs.Ytkdljhmenejckaa
