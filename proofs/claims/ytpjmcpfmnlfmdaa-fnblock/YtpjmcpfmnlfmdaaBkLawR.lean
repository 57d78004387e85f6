/- FnExactBlocksRight's walk; the small contracts on texts among the arguments. -/
import Derived.Test.YtpjmcpfmnlfmdaaBkRight
namespace Go.Proofs.Ytpjmcpfmnlfmdaa
set_option linter.unusedSimpArgs false
set_option linter.unusedVariables false
open Go.RowKit Go.Joins

theorem row_ownX {W : World} {B : Nat} {p : Option Addr} {k n : Nat} {xs : List ByteArray} (h : OwnC strC W B 9 1 (.slice p n k) xs) : RowC strC 1 W p xs := by
  obtain ⟨p', k', e, hR⟩ := h.row strC_len
  injection e with e1 e2 e3
  rw [e1]
  exact hR
theorem own_lenX {W : World} {B : Nat} {v : Value} {xs : List ByteArray} (h : OwnC strC W B 9 1 v xs) : ∃ p k, v = .slice p xs.length k := by
  obtain ⟨p', k', e, hR⟩ := h.row strC_len
  exact ⟨p', k', e⟩
theorem sz_argX {w : World} {a : Option Addr} {len cap : Nat} {xs : List ByteArray} (x0 : TxArg w a len xs) (W : World) (hb : Below w.heap.size w W) :
    Calls Try.prog 27 #[.slice a len cap, .int .i64 1048576] W fun e w' => (∃ z, e = .returned (.int .i64 z) ∧ (z = -1 ∨ (0 ≤ z ∧ z ≤ 1048576) ∧ len ≤ 1048576 ∧ (∀ x ∈ xs, x.size ≤ 1048576))) ∧ Below W.heap.size W w' := by
  obtain ⟨rfl, h2, h3, h4⟩ := x0
  refine (szs_tx xs a cap 1048576 W (by unfold maxLen at h2; omega) (fun x hx => ?_) (by omega) (by omega) (h4.below hb)).mono ?_
  · have := h3 x hx
    unfold maxLen at this
    omega
  · rintro e w' ⟨⟨z, rfl, hz⟩, hb'⟩
    refine ⟨⟨z, rfl, ?_⟩, hb'⟩
    rcases hz with h | ⟨h5, h5b, h6, h7⟩
    · exact .inl h
    · exact .inr ⟨⟨h5, h5b⟩, by omega, fun x hx => by have := h7 x hx; omega⟩
theorem to_argX {w : World} {a : Option Addr} {len cap : Nat} {xs : List ByteArray} (x0 : TxArg w a len xs) (hl : len ≤ 1048576) (W : World) (hb : Below w.heap.size w W) :
    Calls Try.prog 28 #[.slice a len cap] W fun e w' => (∃ p k, e = .returned (.slice p len k) ∧ OwnC strC w' W.heap.size 9 1 (.slice p len k) xs) ∧ Below W.heap.size W w' := by
  obtain ⟨rfl, h2, h3, h4⟩ := x0
  refine (tos_tx xs a cap W hl (h4.below hb)).mono ?_
  rintro e w' ⟨⟨v, rfl, ho⟩, hb'⟩
  obtain ⟨p, k, rfl⟩ := own_lenX ho
  exact ⟨⟨p, k, rfl, ho⟩, hb'⟩
theorem tx_max {xs : List ByteArray} (h : ∀ x ∈ xs, x.size ≤ 1048576) : ∀ x ∈ xs, x.size ≤ maxLen := fun x hx => by have := h x hx; unfold maxLen; omega
theorem tx_two {xs : List ByteArray} (h : ∀ x ∈ xs, x.size ≤ 1048576) : ∀ x ∈ xs, x.size ≤ 2000000 := fun x hx => by have := h x hx; omega
set_option maxRecDepth 100000 in
set_option maxHeartbeats 2000000 in
theorem bkright_law (w : World) (a : Option Addr) (len cap : Nat) (xs : List ByteArray) (x0 : TxArg w a len xs) (hm : MaxL w) :
    Calls Try.prog 5 #[.slice a len cap] w fun e w' => e = .returned (.bool true) ∧ Below w.heap.size w w' := by
  have HX := Lib.hid x0
  have HM := Lib.hid (fun W (h : Below w.heap.size w W) => hm.below h hm.pos)
  have i1 := fun W hb => sz_argX (cap := cap) HX.out W hb
  have i2 := fun (hl : len ≤ 1048576) W hb => to_argX (cap := cap) HX.out hl W hb
  have i3 := fun p c W (hl : len ≤ 1048576) (hw : ∀ x ∈ xs, x.size ≤ 1048576) hR => spec_bkright xs p c W (by rw [HX.out.1]; exact hl) (tx_two hw) hR
  have i4 := fun p c W (hl : len ≤ 1048576) (hw : ∀ x ∈ xs, x.size ≤ 1048576) hR hm => impl_bkright xs p c W (by rw [HX.out.1]; exact hl) (tx_max hw) hR hm
  have i5 := fun p q c d W (hl : len ≤ 1048576) hp hq => eqs_ss xs p q c d W (by rw [HX.out.1]; omega) hp hq
  rw [HX.out.1] at i3 i4 i5
  obtain ⟨Z, hZ⟩ : ∃ Z, bkB xs = Z := ⟨_, rfl⟩
  rw [hZ] at i3 i4
  clear x0 hZ hm
  have HB0 : Hid (Below w.heap.size w w) := Lib.hid (Below.refl _ _)
  go_enter Try.func5, Try.ntmps5
  go_wp2_with (first
    | (go_at_call 29; have _ := HB6; go_fit (i5 p4 p6 k4 k6 _ hz2 (row_ownX HV6.out) (row_ownX HV7.out)); rintro e w7 ⟨rfl, hb⟩; have HB7 := Lib.hid (HB6.out.trans (hb.mono HB6.out.size)); clear hb)
    | (go_at_call 28; have _ := HB5; go_fit (i2 hz2 _ HB5.out); rintro e w6 ⟨⟨p6, k6, rfl, hv⟩, hb⟩; have HB6 := Lib.hid (HB5.out.trans (hb.mono HB5.out.size)); have HV7 := Lib.hid hv; have HV6 := Lib.hid (HV5.out.on hb); clear hb hv)
    | (go_at_call 19; have _ := HB4; go_fit (i4 p4 k4 _ hz2 hz3 (row_ownX HV4.out) (HM.out _ HB4.out)); rintro e w5 ⟨rfl, hb⟩; have HB5 := Lib.hid (HB4.out.trans (hb.mono HB4.out.size)); have HV5 := Lib.hid (HV4.out.on hb); clear hb)
    | (go_at_call 28; have _ := HB3; go_fit (i2 hz2 _ HB3.out); rintro e w4 ⟨⟨p4, k4, rfl, hv⟩, hb⟩; have HB4 := Lib.hid (HB3.out.trans (hb.mono HB3.out.size)); have HV4 := Lib.hid hv; clear hb hv)
    | (go_at_call 20; have _ := HB2; go_fit (i3 p2 k2 _ hz2 hz3 (row_ownX HV2.out)); rintro e w3 ⟨rfl, hb⟩; have HB3 := Lib.hid (HB2.out.trans (hb.mono HB2.out.size)); clear hb)
    | (go_at_call 28; have _ := HB1; go_fit (i2 hz2 _ HB1.out); rintro e w2 ⟨⟨p2, k2, rfl, hv⟩, hb⟩; have HB2 := Lib.hid (HB1.out.trans (hb.mono HB1.out.size)); have HV2 := Lib.hid hv; clear hb hv)
    | (go_at_call 27; go_fit (i1 _ HB0.out); rintro e w1 ⟨⟨z, rfl, hz⟩, hb1⟩; have HB1 := Lib.hid hb1; clear hb1; rcases hz with rfl | ⟨hz1, hz2, hz3⟩))
  · go_ret
    exact ⟨rfl, HB1.out⟩
  · go_ret
    exact ⟨rfl, HB7.out⟩
end Go.Proofs.Ytpjmcpfmnlfmdaa
