/- Slices of Peer among the arguments of a law: their sizes, their copies. -/
import Derived.Test.YtkjkfcljejjpbaaDoorDbPeer
import Derived.Test.YtkjkfcljejjpbaaDoorRowsC
import Derived.Deep.MidRow
import Derived.Laws.CopyOwn
import Derived.Deep.DeepFit
namespace Go.Proofs.YtkjkfcljejjpbaaDoor
set_option linter.unusedSimpArgs false
set_option linter.unusedVariables false
open Go.RowKit

theorem rowA_pr {w : World} {p : Option Addr} {xs : List PrL} (h : RowA prC 4 w p xs) {i : Nat} (hi : i < xs.length) : ∃ g o, p = some ⟨g, o, none⟩ ∧ g < w.heap.size ∧ w.cell? ⟨g, o + i * 4, none⟩ = (prC xs[i])[0]? ∧ w.cell? ⟨g, o + i * 4 + 1, none⟩ = (prC xs[i])[1]? ∧ w.cell? ⟨g, o + i * 4 + 2, none⟩ = (prC xs[i])[2]? ∧ w.cell? ⟨g, o + i * 4 + 3, none⟩ = (prC xs[i])[3]? := by
  obtain ⟨g, o, h1, h2, h3⟩ := h (List.ne_nil_of_length_pos (by omega))
  refine ⟨g, o, h1, h2, ?_, ?_, ?_, ?_⟩
  · exact h3 i hi 0 (by decide)
  · have := h3 i hi 1 (by decide)
    rwa [← Nat.add_assoc] at this
  · have := h3 i hi 2 (by decide)
    rwa [← Nat.add_assoc] at this
  · have := h3 i hi 3 (by decide)
    rwa [← Nat.add_assoc] at this
def Sz_pr (x : PrL) : Prop := (x.d).size ≤ 9223372036854775807 ∧ (x.k).size ≤ 9223372036854775807
def Le_pr (left : Int) (x : PrL) : Prop := ((x.d).size : Int) ≤ left ∧ ((x.k).size : Int) ≤ left
/-- So many elements have been copied. -/
def Cop_pr (xs : List PrL) (g n i : Nat) (W : World) : Prop := ∃ L, Arr W g 43 L ∧ L.length = n * 4 ∧ ∀ i' (h : i' < xs.length), i' < i → ∀ j, j < 4 → L[i' * 4 + j]? = (prC xs[i'])[j]?
theorem Cop_pr.on {xs : List PrL} {g n i : Nat} {W W2 : World} (h : Cop_pr xs g n i W) (hb : Below W.heap.size W W2) : Cop_pr xs g n i W2 := by
  obtain ⟨L, h1, h2⟩ := h
  exact ⟨L, (hb.block g (Array.getElem?_eq_some_iff.1 h1).1).trans h1, h2⟩
theorem Cop_pr.there {xs : List PrL} {g n i q : Nat} {W : World} (h : Cop_pr xs g n i W) (hq : q < n * 4) : (∃ u, W.cell? ⟨g, q, none⟩ = some u) ∧ W.frozen? ⟨g, q, none⟩ = false := by
  obtain ⟨L, h1, h2, _⟩ := h
  rw [h1.cell, h1.free]
  exact ⟨⟨L[q]'(by omega), List.getElem?_eq_getElem _⟩, rfl⟩
theorem Cop_pr.step {xs : List PrL} {g n i : Nat} {W : World} (h : Cop_pr xs g n i W) (hi : i < n) {x : PrL} (hx : xs[i]? = some x) : Cop_pr xs g n (i + 1) ((((W.setCell ⟨g, i * 4, none⟩ (.string x.d)).setCell ⟨g, i * 4 + 1, none⟩ (.int .i64 x.i)).setCell ⟨g, i * 4 + 2, none⟩ (.int .i64 x.s)).setCell ⟨g, i * 4 + 3, none⟩ (.string x.k)) := by
  obtain ⟨L, h1, h2, h3⟩ := h
  refine ⟨_, (((h1.put (i * 4) _).put (i * 4 + 1) _).put (i * 4 + 2) _).put (i * 4 + 3) _, by simpa using h2, fun i' hi' hlt j hj => ?_⟩
  by_cases e : i' = i
  · subst e
    have ex : xs[i'] = x := by rw [List.getElem?_eq_getElem hi'] at hx; exact Option.some.inj hx
    rw [ex]
    match j, hj with
    | 0, _ => rw [show i' * 4 + 0 = i' * 4 from rfl]; rw [List.getElem?_set_ne (by omega)]; rw [List.getElem?_set_ne (by omega)]; rw [List.getElem?_set_ne (by omega)]; rw [List.getElem?_set_self (by first | omega | (simp; omega))]; rfl
    | 1, _ => rw [List.getElem?_set_ne (by omega)]; rw [List.getElem?_set_ne (by omega)]; rw [List.getElem?_set_self (by first | omega | (simp; omega))]; rfl
    | 2, _ => rw [List.getElem?_set_ne (by omega)]; rw [List.getElem?_set_self (by first | omega | (simp; omega))]; rfl
    | 3, _ => rw [List.getElem?_set_self (by first | omega | (simp; omega))]; rfl
  · have := h3 i' hi' (by omega) j hj
    rw [List.getElem?_set_ne (by omega), List.getElem?_set_ne (by omega), List.getElem?_set_ne (by omega), List.getElem?_set_ne (by omega)]
    exact this
theorem Cop_pr.own {xs : List PrL} {g n B : Nat} {W : World} (h : Cop_pr xs g n n W) (hn : xs.length = n) (hB : B ≤ g) (hm : n ≤ 1048576) : OwnC prC W B 43 4 (.slice (some ⟨g, 0, none⟩) n n) xs := by
  obtain ⟨L, h1, h2, h3⟩ := h
  have e : L = xs.flatMap prC := by
    apply List.ext_getElem?
    intro q
    by_cases hq : q < n * 4
    · have h4 := h3 (q / 4) (by rw [hn]; omega) (by omega) (q % 4) (by omega)
      rw [show q / 4 * 4 + q % 4 = q by omega] at h4
      rw [h4]
      have h5 := flat_at (enc := prC) (size := 4) (fun _ => rfl) xs (q / 4) (q % 4) (by rw [hn]; omega) (by omega)
      rw [show q / 4 * 4 + q % 4 = q by omega] at h5
      exact h5.symm
    · rw [List.getElem?_eq_none (by omega), List.getElem?_eq_none]
      rw [flat_len (enc := prC) (size := 4) (fun _ => rfl), hn]
      omega
  refine ⟨by rw [flat_len (enc := prC) (size := 4) (fun _ => rfl)], .inr ⟨g, n, L.toArray, by rw [hn], hB, h1, by omega, by unfold maxLen; omega, by simpa using h2, ?_⟩⟩
  rw [← e, List.take_of_length_le (by simp; rw [h2, hn]; omega)]
theorem cop_pr_start {xs : List PrL} {w w1 : World} {z : Array Value} {n B : Nat} (h : w1.ownsRow B 43 4 (.slice (some ⟨w.heap.size, 0, none⟩) n n) n (madeCells z (n * 4)).toList) : Cop_pr xs w.heap.size n 0 w1 := by
  rcases h.2 with ⟨h0, _⟩ | ⟨g, cap, cur, h1, h2, h3, h4, h5, h6, h7⟩
  · cases h0
  · injection h1 with e1 e2 e3
    injection e1 with e1
    injection e1 with e1
    subst e1 e3
    exact ⟨cur.toList, h3, by simpa using h6, fun i' _ hi' => absurd hi' (Nat.not_lt_zero _)⟩
theorem info_pr : (Tryd.prog.info? 43).map (fun i => (i.zero, i.size, i.bytes)) = some (some (.agg #[.string ⟨#[]⟩, .int .i64 0, .int .i64 0, .string ⟨#[]⟩]), 4, 48) := by kernel_rfl
end Go.Proofs.YtkjkfcljejjpbaaDoor
