/- Slices of Session among the arguments of a law: their sizes, their copies. -/
import Derived.Test.YtkdljhmenejckaaSeRow
import Derived.Test.YtkdljhmenejckaaRowsC
import Derived.Deep.MidRow
import Derived.Laws.CopyOwn
import Derived.Deep.DeepFit
namespace Go.Proofs.Ytkdljhmenejckaa
set_option linter.unusedSimpArgs false
set_option linter.unusedVariables false
open Go.RowKit

set_option maxHeartbeats 1000000 in
theorem sz_se (x : SeL) (left : Int) (w : World) (h0 : (x.r).size ≤ 9223372036854775807) (h1 : (x.s).size ≤ 9223372036854775807) (l0 : 0 ≤ left) (l1 : left ≤ 1048576) :
    Calls Try.prog 80 #[.agg #[.string x.r, .bool x.o, .int .i64 x.p, .string x.s], .int .i64 left] w fun e w' => (∃ z, e = .returned (.int .i64 z) ∧ (z = -1 ∨ 0 ≤ z ∧ z = left - (x.r).size - (x.s).size)) ∧ Below w.heap.size w w' := by
  by_cases k0 : left - (x.r).size < 0
  · go_enter Try.func80, Try.ntmps80
    go_wp2
    all_goals (go_ret; exact ⟨⟨_, rfl, .inl rfl⟩, (Below.refl _ _).alloc (Nat.le_refl _) _⟩)
  by_cases k1 : left - (x.r).size - (x.s).size < 0
  · go_enter Try.func80, Try.ntmps80
    go_wp2
    all_goals (go_ret; exact ⟨⟨_, rfl, .inl rfl⟩, (Below.refl _ _).alloc (Nat.le_refl _) _⟩)
  go_enter Try.func80, Try.ntmps80
  go_wp2
  all_goals (go_ret; exact ⟨⟨_, rfl, .inr ⟨by omega, by omega⟩⟩, (Below.refl _ _).alloc (Nat.le_refl _) _⟩)
set_option maxHeartbeats 1000000 in
theorem to_se (x : SeL) (w : World) : Calls Try.prog 81 #[.agg #[.string x.r, .bool x.o, .int .i64 x.p, .string x.s]] w fun e w' => e = .returned (.agg #[.string x.r, .bool x.o, .int .i64 x.p, .string x.s]) ∧ Below w.heap.size w w' := by
  go_enter Try.func81, Try.ntmps81
  go_wp2
  exact bodyPost_ret (v := .agg #[.string x.r, .bool x.o, .int .i64 x.p, .string x.s]) (by simp [results, Try.results81, go_sem]) rfl ⟨rfl, (((Below.refl _ _).alloc (Nat.le_refl _) _).alloc (by simp) _).alloc (by simp; omega) _⟩
theorem rowA_se {w : World} {p : Option Addr} {xs : List SeL} (h : RowA seC 4 w p xs) {i : Nat} (hi : i < xs.length) : ∃ g o, p = some ⟨g, o, none⟩ ∧ g < w.heap.size ∧ w.cell? ⟨g, o + i * 4, none⟩ = (seC xs[i])[0]? ∧ w.cell? ⟨g, o + i * 4 + 1, none⟩ = (seC xs[i])[1]? ∧ w.cell? ⟨g, o + i * 4 + 2, none⟩ = (seC xs[i])[2]? ∧ w.cell? ⟨g, o + i * 4 + 3, none⟩ = (seC xs[i])[3]? := by
  obtain ⟨g, o, h1, h2, h3⟩ := h (List.ne_nil_of_length_pos (by omega))
  refine ⟨g, o, h1, h2, ?_, ?_, ?_, ?_⟩
  · exact h3 i hi 0 (by decide)
  · have := h3 i hi 1 (by decide)
    rwa [← Nat.add_assoc] at this
  · have := h3 i hi 2 (by decide)
    rwa [← Nat.add_assoc] at this
  · have := h3 i hi 3 (by decide)
    rwa [← Nat.add_assoc] at this
def Sz_se (x : SeL) : Prop := (x.r).size ≤ 9223372036854775807 ∧ (x.s).size ≤ 9223372036854775807
def Le_se (left : Int) (x : SeL) : Prop := ((x.r).size : Int) ≤ left ∧ ((x.s).size : Int) ≤ left
set_option maxRecDepth 100000 in
set_option maxHeartbeats 1000000 in
theorem szs_se (xs : List SeL) (p : Option Addr) (cap : Nat) (left : Int) (w : World) (hl : xs.length ≤ 9223372036854775807) (hw : ∀ x ∈ xs, Sz_se x) (l0 : 0 ≤ left) (l1 : left ≤ 1048576) (hR : RowA seC 4 w p xs) :
    Calls Try.prog 34 #[.slice p xs.length cap, .int .i64 left] w fun e w' => (∃ z, e = .returned (.int .i64 z) ∧ (z = -1 ∨ 0 ≤ z ∧ z ≤ left ∧ (xs.length : Int) ≤ left ∧ ∀ x ∈ xs, Le_se left x)) ∧ Below w.heap.size w w' := by
  obtain ⟨n, hxn⟩ : ∃ n, xs.length = n := ⟨_, rfl⟩
  have HR := Lib.hid hR
  have HW := Lib.hid hw
  have HN := Lib.hid hxn
  rw [hxn] at hl ⊢
  clear hR hw hxn
  by_cases hbig : left < (n : Int)
  · go_enter Try.func34, Try.ntmps34
    go_wp2
    go_ret
    exact ⟨⟨_, rfl, .inl rfl⟩, Below.refl _ _⟩
  · go_enter Try.func34, Try.ntmps34
    go_wp2
    go_loopw [1, 5] (fun lq iq wr => ∃ (i : Nat) (l : Int), i ≤ n ∧ iq = .int .i64 i ∧ lq = .int .i64 l ∧ 0 ≤ l ∧ l ≤ left ∧ (∀ j (hj : j < xs.length), j < i → Le_se left xs[j]) ∧ Below w.heap.size w wr) (fun _ i _ => n - (intOf i).toNat)
    case atStart => exact ⟨0, _, Nat.zero_le _, rfl, rfl, by omega, by omega, fun j _ hj => absurd hj (Nat.not_lt_zero _), Below.refl _ _⟩
    case round =>
      obtain ⟨i, l, hi, rfl, rfl, hl0, hl1, hall, hb⟩ := hrel
      have HA := Lib.hid hall
      have HB := Lib.hid hb
      by_cases hlt : i < n
      · have hlt' : i < xs.length := by rw [HN.out]; exact hlt
        obtain ⟨g, o, rfl, hg, a0, a1, a2, a3⟩ := rowA_se (HR.out.below hb) hlt'
        obtain ⟨x, hx⟩ : ∃ x, xs[i] = x := ⟨_, rfl⟩
        have hxw := HW.out _ (List.getElem_mem hlt')
        have HX := Lib.hid hx
        rw [hx] at a0 a1 a2 a3 hxw
        unfold seC at a0 a1 a2 a3
        simp only [List.getElem?_cons_zero, List.getElem?_cons_succ] at a0 a1 a2 a3
        unfold Sz_se at hxw
        clear hall hb hx
        go_wp2_with (go_at_call 80; go_fit (sz_se x _ _ (by omega) (by omega) (by omega) (by omega)); (rintro e w1 ⟨⟨z, rfl, hz⟩, hb1⟩); (rcases hz with rfl | ⟨hz0, hz1⟩))
        · go_ret
          exact ⟨⟨_, rfl, .inl rfl⟩, HB.out.trans (hb1.mono HB.out.size)⟩
        · go_roundw
          case rel =>
            refine ⟨i + 1, _, by omega, by go_num, rfl, by omega, by omega, fun j hj hji => ?_, HB.out.trans (hb1.mono HB.out.size)⟩
            by_cases e : j = i
            · subst e
              rw [HX.out]
              unfold Le_se
              omega
            · exact HA.out j hj (by omega)
          case measure => simp [intOf]; omega
      · obtain rfl : i = n := by omega
        go_wp2
        go_ret
        refine ⟨⟨_, rfl, .inr ⟨hl0, hl1, by omega, fun x hx => ?_⟩⟩, HB.out⟩
        obtain ⟨j, hj, rfl⟩ := List.mem_iff_getElem.1 hx
        exact HA.out j hj (by rw [← HN.out]; exact hj)
/-- So many elements have been copied. -/
def Cop_se (xs : List SeL) (g n i : Nat) (W : World) : Prop := ∃ L, Arr W g 42 L ∧ L.length = n * 4 ∧ ∀ i' (h : i' < xs.length), i' < i → ∀ j, j < 4 → L[i' * 4 + j]? = (seC xs[i'])[j]?
theorem Cop_se.on {xs : List SeL} {g n i : Nat} {W W2 : World} (h : Cop_se xs g n i W) (hb : Below W.heap.size W W2) : Cop_se xs g n i W2 := by
  obtain ⟨L, h1, h2⟩ := h
  exact ⟨L, (hb.block g (Array.getElem?_eq_some_iff.1 h1).1).trans h1, h2⟩
theorem Cop_se.there {xs : List SeL} {g n i q : Nat} {W : World} (h : Cop_se xs g n i W) (hq : q < n * 4) : (∃ u, W.cell? ⟨g, q, none⟩ = some u) ∧ W.frozen? ⟨g, q, none⟩ = false := by
  obtain ⟨L, h1, h2, _⟩ := h
  rw [h1.cell, h1.free]
  exact ⟨⟨L[q]'(by omega), List.getElem?_eq_getElem _⟩, rfl⟩
theorem Cop_se.step {xs : List SeL} {g n i : Nat} {W : World} (h : Cop_se xs g n i W) (hi : i < n) {x : SeL} (hx : xs[i]? = some x) : Cop_se xs g n (i + 1) ((((W.setCell ⟨g, i * 4, none⟩ (.string x.r)).setCell ⟨g, i * 4 + 1, none⟩ (.bool x.o)).setCell ⟨g, i * 4 + 2, none⟩ (.int .i64 x.p)).setCell ⟨g, i * 4 + 3, none⟩ (.string x.s)) := by
  obtain ⟨L, h1, h2, h3⟩ := h
  refine ⟨_, (((h1.put (i * 4) _).put (i * 4 + 1) _).put (i * 4 + 2) _).put (i * 4 + 3) _, by simpa using h2, fun i' hi' hlt j hj => ?_⟩
  by_cases e : i' = i
  · subst e
    have ex : xs[i'] = x := by rw [List.getElem?_eq_getElem hi'] at hx; exact Option.some.inj hx
    rw [ex]
    match j, hj with
    | 0, _ => rw [show i' * 4 + 0 = i' * 4 from rfl]; rw [List.getElem?_set_ne (by omega)]; rw [List.getElem?_set_ne (by omega)]; rw [List.getElem?_set_ne (by omega)]; rw [List.getElem?_set_self (by first | omega | (simp; omega))]; rfl
    | 1, _ => rw [List.getElem?_set_ne (by omega)]; rw [List.getElem?_set_ne (by omega)]; rw [List.getElem?_set_self (by first | omega | (simp; omega))]; rfl
    | 2, _ => rw [List.getElem?_set_ne (by omega)]; rw [List.getElem?_set_self (by first | omega | (simp; omega))]; rfl
    | 3, _ => rw [List.getElem?_set_self (by first | omega | (simp; omega))]; rfl
  · have := h3 i' hi' (by omega) j hj
    rw [List.getElem?_set_ne (by omega), List.getElem?_set_ne (by omega), List.getElem?_set_ne (by omega), List.getElem?_set_ne (by omega)]
    exact this
theorem Cop_se.own {xs : List SeL} {g n B : Nat} {W : World} (h : Cop_se xs g n n W) (hn : xs.length = n) (hB : B ≤ g) (hm : n ≤ 1048576) : OwnC seC W B 42 4 (.slice (some ⟨g, 0, none⟩) n n) xs := by
  obtain ⟨L, h1, h2, h3⟩ := h
  have e : L = xs.flatMap seC := by
    apply List.ext_getElem?
    intro q
    by_cases hq : q < n * 4
    · have h4 := h3 (q / 4) (by rw [hn]; omega) (by omega) (q % 4) (by omega)
      rw [show q / 4 * 4 + q % 4 = q by omega] at h4
      rw [h4]
      have h5 := flat_at (enc := seC) (size := 4) (fun _ => rfl) xs (q / 4) (q % 4) (by rw [hn]; omega) (by omega)
      rw [show q / 4 * 4 + q % 4 = q by omega] at h5
      exact h5.symm
    · rw [List.getElem?_eq_none (by omega), List.getElem?_eq_none]
      rw [flat_len (enc := seC) (size := 4) (fun _ => rfl), hn]
      omega
  refine ⟨by rw [flat_len (enc := seC) (size := 4) (fun _ => rfl)], .inr ⟨g, n, L.toArray, by rw [hn], hB, h1, by omega, by unfold maxLen; omega, by simpa using h2, ?_⟩⟩
  rw [← e, List.take_of_length_le (by simp; rw [h2, hn]; omega)]
theorem cop_se_start {xs : List SeL} {w w1 : World} {z : Array Value} {n B : Nat} (h : w1.ownsRow B 42 4 (.slice (some ⟨w.heap.size, 0, none⟩) n n) n (madeCells z (n * 4)).toList) : Cop_se xs w.heap.size n 0 w1 := by
  rcases h.2 with ⟨h0, _⟩ | ⟨g, cap, cur, h1, h2, h3, h4, h5, h6, h7⟩
  · cases h0
  · injection h1 with e1 e2 e3
    injection e1 with e1
    injection e1 with e1
    subst e1 e3
    exact ⟨cur.toList, h3, by simpa using h6, fun i' _ hi' => absurd hi' (Nat.not_lt_zero _)⟩
theorem info_se : (Try.prog.info? 42).map (fun i => (i.zero, i.size, i.bytes)) = some (some (.agg #[.string ⟨#[]⟩, .bool false, .int .i64 0, .string ⟨#[]⟩]), 4, 48) := by kernel_rfl
set_option maxRecDepth 100000 in
set_option maxHeartbeats 1000000 in
theorem tos_se (xs : List SeL) (p : Option Addr) (cap : Nat) (w : World) (hl : xs.length ≤ 1048576) (hR : RowA seC 4 w p xs) :
    Calls Try.prog 35 #[.slice p xs.length cap] w fun e w' => (∃ v, e = .returned v ∧ OwnC seC w' w.heap.size 42 4 v xs) ∧ Below w.heap.size w w' := by
  obtain ⟨n, hxn⟩ : ∃ n, xs.length = n := ⟨_, rfl⟩
  have HR := Lib.hid hR
  have HN := Lib.hid hxn
  rw [hxn] at hl ⊢
  clear hR hxn
  obtain ⟨i0, hi, hz0, hz1, hz2⟩ := info_parts info_se
  go_enter Try.func35, Try.ntmps35
  go_wp2_with (refine wpList_make_full _ rfl (.tmp 6) (.tmp 6) 23 rfl w.heap.size 42 i0 (.agg #[.string ⟨#[]⟩, .bool false, .int .i64 0, .string ⟨#[]⟩]) 4 Try.underlying23 hi hz0 hz1 .i64 .i64 _ _ n rfl rfl rfl rfl (by rw [hz2]; omega) (by unfold maxLen; omega) (Nat.le_refl _) ?_; intro w1 ho1 hg1)
  have HC0 : Hid (Cop_se xs w.heap.size n 0 w1) := Lib.hid (cop_se_start ho1)
  have HB0 : Hid (Below w.heap.size w w1) := Lib.hid ((Below.refl _ _).grown hg1 (Nat.le_refl _) (fun k hk => by cases hk))
  have hsz0 := HB0.out.size
  have hgz : w.heap.size < w1.heap.size := (ho1.lt w.heap.size rfl).2
  clear ho1 hg1
  go_loopw [4] (fun iq wr => ∃ i : Nat, i ≤ n ∧ iq = .int .i64 i ∧ Cop_se xs w.heap.size n i wr ∧ Below w.heap.size w wr) (fun i _ => n - (intOf i).toNat)
  case atStart => exact ⟨0, Nat.zero_le _, rfl, HC0.out, HB0.out⟩
  case round =>
    obtain ⟨i, hi', rfl, hC, hb⟩ := hrel
    have HC := Lib.hid hC
    have HB := Lib.hid hb
    by_cases hlt : i < n
    · have hlt' : i < xs.length := by rw [HN.out]; exact hlt
      obtain ⟨g, o, rfl, hg, a0, a1, a2, a3⟩ := rowA_se HR.out hlt'
      obtain ⟨x, hx⟩ : ∃ x, xs[i] = x := ⟨_, rfl⟩
      have HX : Hid (xs[i]? = some x) := Lib.hid (by rw [List.getElem?_eq_getElem hlt', hx])
      rw [hx] at a0 a1 a2 a3
      replace a0 := (hb.cell (p := ⟨g, o + i * 4, none⟩) hg).trans a0; replace a1 := (hb.cell (p := ⟨g, o + i * 4 + 1, none⟩) hg).trans a1; replace a2 := (hb.cell (p := ⟨g, o + i * 4 + 2, none⟩) hg).trans a2; replace a3 := (hb.cell (p := ⟨g, o + i * 4 + 3, none⟩) hg).trans a3
      unfold seC at a0 a1 a2 a3
      simp only [List.getElem?_cons_zero, List.getElem?_cons_succ] at a0 a1 a2 a3
      clear hb hC hx
      go_wp2_with (go_at_call 81; go_fit (to_se x _); rintro e w2 ⟨rfl, hb2⟩; have HC1 := Lib.hid (HC.out.on hb2); have HB1 := Lib.hid (HB.out.trans (hb2.mono HB.out.size)); clear hb2; obtain ⟨⟨v0, d0⟩, f0⟩ := HC1.out.there (q := i * 4) (by omega); obtain ⟨⟨v1, d1⟩, f1⟩ := HC1.out.there (q := i * 4 + 1) (by omega); obtain ⟨⟨v2, d2⟩, f2⟩ := HC1.out.there (q := i * 4 + 2) (by omega); obtain ⟨⟨v3, d3⟩, f3⟩ := HC1.out.there (q := i * 4 + 3) (by omega))
      go_roundw
      case rel => exact ⟨i + 1, by omega, by go_num, HC1.out.step hlt HX.out, (((HB1.out.setCell (p := ⟨w.heap.size, i * 4, none⟩) (Nat.le_refl _) _).setCell (p := ⟨w.heap.size, i * 4 + 1, none⟩) (Nat.le_refl _) _).setCell (p := ⟨w.heap.size, i * 4 + 2, none⟩) (Nat.le_refl _) _).setCell (p := ⟨w.heap.size, i * 4 + 3, none⟩) (Nat.le_refl _) _⟩
      case measure => simp [intOf]; omega
    · obtain rfl : i = n := by omega
      go_wp2
      go_ret
      exact ⟨⟨_, rfl, HC.out.own HN.out (Nat.le_refl _) hl⟩, HB.out⟩
end Go.Proofs.Ytkdljhmenejckaa
