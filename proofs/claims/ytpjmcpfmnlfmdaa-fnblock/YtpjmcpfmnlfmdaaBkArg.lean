/- Slices of strings among the arguments of a law: their sizes, their copies. -/
import Derived.Test.YtpjmcpfmnlfmdaaRwStr
import Derived.Test.YtpjmcpfmnlfmdaaSeRow
import Derived.Test.YtpjmcpfmnlfmdaaRowsC
import Derived.Deep.MidRow
import Derived.Laws.CopyOwn
import Derived.Deep.DeepFit
namespace Go.Proofs.Ytpjmcpfmnlfmdaa
set_option linter.unusedSimpArgs false
set_option linter.unusedVariables false
open Go.ChangeShapes Go.WideShapes Go.ChangeAt Go.RowKit

theorem rowA_tx {w : World} {p : Option Addr} {xs : List ByteArray} (h : RowA strC 1 w p xs) {i : Nat} (hi : i < xs.length) : ∃ g o, p = some ⟨g, o, none⟩ ∧ g < w.heap.size ∧ w.cell? ⟨g, o + i, none⟩ = some (.string xs[i]) := by
  obtain ⟨g, o, h1, h2, h3⟩ := h (List.ne_nil_of_length_pos (by omega))
  refine ⟨g, o, h1, h2, ?_⟩
  have := h3 i hi 0 (by decide)
  rw [Nat.mul_one, Nat.add_zero] at this
  exact this
set_option maxRecDepth 100000 in
set_option maxHeartbeats 1000000 in
theorem szs_tx (xs : List ByteArray) (p : Option Addr) (cap : Nat) (left : Int) (w : World) (hl : xs.length ≤ 9223372036854775807) (hw : ∀ x ∈ xs, x.size ≤ 9223372036854775807) (l0 : 0 ≤ left) (l1 : left ≤ 1048576) (hR : RowA strC 1 w p xs) :
    Calls Try.prog 27 #[.slice p xs.length cap, .int .i64 left] w fun e w' => (∃ z, e = .returned (.int .i64 z) ∧ (z = -1 ∨ 0 ≤ z ∧ z ≤ left ∧ (xs.length : Int) ≤ left ∧ ∀ x ∈ xs, (x.size : Int) ≤ left)) ∧ Below w.heap.size w w' := by
  obtain ⟨n, hxn⟩ : ∃ n, xs.length = n := ⟨_, rfl⟩
  have HR := Lib.hid hR
  have HW := Lib.hid hw
  have HN := Lib.hid hxn
  rw [hxn] at hl ⊢
  clear hR hw hxn
  by_cases hbig : left < (n : Int)
  · go_enter Try.func27, Try.ntmps27
    go_wp2
    go_ret
    exact ⟨⟨_, rfl, .inl rfl⟩, Below.refl _ _⟩
  · go_enter Try.func27, Try.ntmps27
    go_wp2
    go_loopw [1, 5] (fun lq iq wr => ∃ (i : Nat) (l : Int), i ≤ n ∧ iq = .int .i64 i ∧ lq = .int .i64 l ∧ 0 ≤ l ∧ l ≤ left ∧ (∀ j (hj : j < xs.length), j < i → (xs[j].size : Int) ≤ left) ∧ Below w.heap.size w wr) (fun _ i _ => n - (intOf i).toNat)
    case atStart => exact ⟨0, _, Nat.zero_le _, rfl, rfl, by omega, by omega, fun j _ hj => absurd hj (Nat.not_lt_zero _), Below.refl _ _⟩
    case round =>
      obtain ⟨i, l, hi, rfl, rfl, hl0, hl1, hall, hb⟩ := hrel
      have HA := Lib.hid hall
      have HB := Lib.hid hb
      by_cases hlt : i < n
      · have hlt' : i < xs.length := by rw [HN.out]; exact hlt
        obtain ⟨g, o, rfl, hg, a0⟩ := rowA_tx (HR.out.below hb) hlt'
        obtain ⟨x, hx⟩ : ∃ x, xs[i] = x := ⟨_, rfl⟩
        have hxw := HW.out _ (List.getElem_mem hlt')
        have HX := Lib.hid hx
        rw [hx] at a0 hxw
        clear hall hb hx
        by_cases hneg : l - x.size < 0
        · go_wp2
          go_ret
          exact ⟨⟨_, rfl, .inl rfl⟩, HB.out⟩
        · go_wp2
          go_roundw
          case rel =>
            refine ⟨i + 1, _, by omega, by go_num, rfl, by omega, by omega, fun j hj hji => ?_, HB.out⟩
            by_cases e : j = i
            · subst e
              rw [HX.out]
              omega
            · exact HA.out j hj (by omega)
          case measure => simp [intOf]; omega
      · obtain rfl : i = n := by omega
        go_wp2
        go_ret
        refine ⟨⟨_, rfl, .inr ⟨hl0, hl1, by omega, fun x hx => ?_⟩⟩, HB.out⟩
        obtain ⟨j, hj, rfl⟩ := List.mem_iff_getElem.1 hx
        exact HA.out j hj (by rw [← HN.out]; exact hj)
/-- So many texts have been copied. -/
def Cop_tx (xs : List ByteArray) (g n i : Nat) (W : World) : Prop := ∃ L, Arr W g 9 L ∧ L.length = n ∧ ∀ i' (h : i' < xs.length), i' < i → L[i']? = some (.string xs[i'])
theorem Cop_tx.there {xs : List ByteArray} {g n i q : Nat} {W : World} (h : Cop_tx xs g n i W) (hq : q < n) : (∃ u, W.cell? ⟨g, q, none⟩ = some u) ∧ W.frozen? ⟨g, q, none⟩ = false := by
  obtain ⟨L, h1, h2, _⟩ := h
  rw [h1.cell, h1.free]
  exact ⟨⟨L[q]'(by omega), List.getElem?_eq_getElem _⟩, rfl⟩
theorem Cop_tx.step {xs : List ByteArray} {g n i : Nat} {W : World} (h : Cop_tx xs g n i W) (hi : i < n) {x : ByteArray} (hx : xs[i]? = some x) : Cop_tx xs g n (i + 1) (W.setCell ⟨g, i, none⟩ (.string x)) := by
  obtain ⟨L, h1, h2, h3⟩ := h
  refine ⟨_, h1.put i _, by simpa using h2, fun i' hi' hlt => ?_⟩
  by_cases e : i' = i
  · subst e
    have ex : xs[i'] = x := by rw [List.getElem?_eq_getElem hi'] at hx; exact Option.some.inj hx
    rw [ex, List.getElem?_set_self (by omega)]
  · rw [List.getElem?_set_ne (by omega)]
    exact h3 i' hi' (by omega)
theorem Cop_tx.own {xs : List ByteArray} {g n B : Nat} {W : World} (h : Cop_tx xs g n n W) (hn : xs.length = n) (hB : B ≤ g) (hm : n ≤ 1048576) : OwnC strC W B 9 1 (.slice (some ⟨g, 0, none⟩) n n) xs := by
  obtain ⟨L, h1, h2, h3⟩ := h
  have e : L = xs.flatMap strC := by
    apply List.ext_getElem?
    intro q
    by_cases hq : q < n
    · have h4 := h3 q (by omega) hq
      rw [h4]
      have h5 := flat_at (enc := strC) (size := 1) (fun _ => rfl) xs q 0 (by omega) (by decide)
      rw [Nat.mul_one, Nat.add_zero] at h5
      exact h5.symm
    · rw [List.getElem?_eq_none (by omega), List.getElem?_eq_none]
      rw [flat_len (enc := strC) (size := 1) (fun _ => rfl), hn]
      omega
  refine ⟨by rw [flat_len (enc := strC) (size := 1) (fun _ => rfl)], .inr ⟨g, n, L.toArray, by rw [hn], hB, h1, by omega, by unfold maxLen; omega, by simpa using h2, ?_⟩⟩
  rw [← e, List.take_of_length_le (by simp; omega)]
theorem cop_tx_start {xs : List ByteArray} {w w1 : World} {z : Array Value} {n B : Nat} (h : w1.ownsRow B 9 1 (.slice (some ⟨w.heap.size, 0, none⟩) n n) n (madeCells z (n * 1)).toList) : Cop_tx xs w.heap.size n 0 w1 := by
  rcases h.2 with ⟨h0, _⟩ | ⟨g, cap, cur, h1, h2, h3, h4, h5, h6, h7⟩
  · cases h0
  · injection h1 with e1 e2 e3
    injection e1 with e1
    injection e1 with e1
    subst e1 e3
    exact ⟨cur.toList, h3, by simpa using h6, fun i' _ hi' => absurd hi' (Nat.not_lt_zero _)⟩
theorem info_tx : (Try.prog.info? 9).map (fun i => (i.zero, i.size, i.bytes)) = some (some (.string ⟨#[]⟩), 1, 16) := by kernel_rfl
set_option maxRecDepth 100000 in
set_option maxHeartbeats 1000000 in
theorem tos_tx (xs : List ByteArray) (p : Option Addr) (cap : Nat) (w : World) (hl : xs.length ≤ 1048576) (hR : RowA strC 1 w p xs) :
    Calls Try.prog 28 #[.slice p xs.length cap] w fun e w' => (∃ v, e = .returned v ∧ OwnC strC w' w.heap.size 9 1 v xs) ∧ Below w.heap.size w w' := by
  obtain ⟨n, hxn⟩ : ∃ n, xs.length = n := ⟨_, rfl⟩
  have HR := Lib.hid hR
  have HN := Lib.hid hxn
  rw [hxn] at hl ⊢
  clear hR hxn
  obtain ⟨i0, hi, hz0, hz1, hz2⟩ := info_parts info_tx
  go_enter Try.func28, Try.ntmps28
  go_wp2_with (refine wpList_make_full _ rfl (.tmp 6) (.tmp 6) 23 rfl w.heap.size 9 i0 (.string ⟨#[]⟩) 1 Try.underlying23 hi hz0 hz1 .i64 .i64 _ _ n rfl rfl rfl rfl (by rw [hz2]; omega) (by unfold maxLen; omega) (Nat.le_refl _) ?_; intro w1 ho1 hg1)
  have HC0 : Hid (Cop_tx xs w.heap.size n 0 w1) := Lib.hid (cop_tx_start ho1)
  have HB0 : Hid (Below w.heap.size w w1) := Lib.hid ((Below.refl _ _).grown hg1 (Nat.le_refl _) (fun k hk => by cases hk))
  have hsz0 := HB0.out.size
  have hgz : w.heap.size < w1.heap.size := (ho1.lt w.heap.size rfl).2
  clear ho1 hg1
  go_loopw [4] (fun iq wr => ∃ i : Nat, i ≤ n ∧ iq = .int .i64 i ∧ Cop_tx xs w.heap.size n i wr ∧ Below w.heap.size w wr) (fun i _ => n - (intOf i).toNat)
  case atStart => exact ⟨0, Nat.zero_le _, rfl, HC0.out, HB0.out⟩
  case round =>
    obtain ⟨i, hi', rfl, hC, hb⟩ := hrel
    have HC := Lib.hid hC
    have HB := Lib.hid hb
    by_cases hlt : i < n
    · have hlt' : i < xs.length := by rw [HN.out]; exact hlt
      obtain ⟨g, o, rfl, hg, a0⟩ := rowA_tx HR.out hlt'
      obtain ⟨x, hx⟩ : ∃ x, xs[i] = x := ⟨_, rfl⟩
      have HX : Hid (xs[i]? = some x) := Lib.hid (by rw [List.getElem?_eq_getElem hlt', hx])
      rw [hx] at a0
      replace a0 := (hb.cell (p := ⟨g, o + i, none⟩) hg).trans a0
      obtain ⟨⟨v0, d0⟩, f0⟩ := hC.there (q := i) hlt
      clear hb hC hx
      go_wp2
      go_roundw
      case rel => exact ⟨i + 1, by omega, by go_num, HC.out.step hlt HX.out, HB.out.setCell (p := ⟨w.heap.size, i, none⟩) (Nat.le_refl _) _⟩
      case measure => simp [intOf]; omega
    · obtain rfl : i = n := by omega
      go_wp2
      go_ret
      exact ⟨⟨_, rfl, HC.out.own HN.out (Nat.le_refl _) hl⟩, HB.out⟩
/-- A slice of texts among the arguments. -/
def TxArg (W : World) (a : Option Addr) (len : Nat) (ps : List ByteArray) : Prop := ps.length = len ∧ len ≤ maxLen ∧ (∀ p ∈ ps, p.size ≤ maxLen) ∧ RowA strC 1 W a ps
theorem TxArg.below {W W2 : World} {a : Option Addr} {len : Nat} {ps : List ByteArray} (h : TxArg W a len ps) (hb : Below W.heap.size W W2) : TxArg W2 a len ps := ⟨h.1, h.2.1, h.2.2.1, h.2.2.2.below hb⟩
theorem addr_plainX {w : World} {x : Addr} {v : Value} (h : w.cell? x = some v) : x = ⟨x.block, x.off, none⟩ := by
  obtain ⟨b, off, sp⟩ := x
  cases sp with
  | none => rfl
  | some s =>
    simp [World.cell?] at h
    split at h <;> cases h
theorem cells_oneX {W : World} {base : Nat} {a : Addr} {cs : List Value} (h : W.cells? base a 1 = some cs) : ∃ c0, cs = [c0] ∧ W.cell? (a.add 0) = some c0 := by
  unfold World.cells? at h
  split at h
  · rw [show List.range 1 = [0] from rfl] at h
    simp only [List.mapM_cons, List.mapM_nil, Option.bind_eq_bind, Option.pure_def] at h
    cases h0 : W.cell? (a.add 0) with
    | none => rw [h0] at h; simp at h
    | some c0 =>
      rw [h0] at h
      simp at h
      exact ⟨c0, h.symm, rfl⟩
  · cases h
set_option maxRecDepth 100000 in
theorem texts_trod {H : Type} {enc : TypeId × Value → H} {W : World} {base : Nat} {sp : Nat → Bool} {held : Bool} {fuel : Nat} {c : Value} {x : DataW H × List MemPlace}
    (hf : DataW.trod enc Try.prog W base sp held fuel 23 [c] = some x) : ∃ a len cap ps, c = .slice a len cap ∧ TxArg W a len ps := by
  rcases Deep.open_slice Try.underlying23 hf with ⟨hcs, _⟩ | ⟨a, len, cap, m, n, D, Pl, hcs, hb, hl, hm, hmm, hx, hall⟩
  · injection hcs with h1
    exact ⟨none, 0, 0, [], h1, rfl, Nat.zero_le _, fun p hp => (by cases hp), fun h => absurd rfl h⟩
  · injection hcs with h1
    have hlm : len ≤ m := by rw [hmm]; split <;> omega
    have each : ∀ i, i < len → ∃ p : ByteArray, p.size ≤ maxLen ∧ W.cell? ((a.add (i * 1)).add 0) = some (.string p) := by
      intro i hi
      obtain ⟨cs', hc, ht⟩ := hall i (by omega)
      rw [cellsStr9] at hc
      obtain ⟨c0, rfl, e0⟩ := cells_oneX hc
      obtain ⟨d, e1, _, w0⟩ := DataW.trod_string Try.underlying9 ht
      simp at e1
      subst e1
      exact ⟨d, w0, e0⟩
    obtain ⟨P, hP⟩ := Deep.choose_lt each
    refine ⟨some a, len, cap, (List.range len).map P, h1, by simp, by omega, fun p hp => ?_, fun hne => ?_⟩
    · obtain ⟨i, hi, rfl⟩ := List.mem_map.1 hp
      exact (hP i (List.mem_range.1 hi)).1
    · have h0 : 0 < len := by
        rcases Nat.eq_zero_or_pos len with h | h
        · subst h; exact absurd rfl hne
        · exact h
      have hc0 := (hP 0 h0).2
      simp only [Nat.zero_mul] at hc0
      have ha : W.cell? a = some (.string (P 0)) := hc0
      have hap := addr_plainX ha
      refine ⟨a.block, a.off, by rw [← hap], ?_, fun i hi j hj => ?_⟩
      · exact block_lt_of_cell ha
      · obtain rfl : j = 0 := by omega
        have hi' : i < len := by simpa using hi
        have h2 := (hP i hi').2
        rw [Deep.add_add, hap] at h2
        simp only [List.getElem_map, List.getElem_range]
        show _ = some (Value.string (P i))
        rw [← h2]
        congr 1
        unfold Addr.add
        split
        · rename_i h3; rw [h3]; rfl
        · rfl
set_option maxRecDepth 100000 in
theorem texts_open {H : Type} {enc : TypeId × Value → H} {W : World} {base : Nat} {sp : Nat → Bool} {held : Bool} {a : Option Addr} {len cap : Nat} {D : DataW H} {p : List MemPlace}
    (h : DataW.Trod enc Try.prog W base sp held 23 (.slice a len cap) D p) : ∃ ps, TxArg W a len ps := by
  obtain ⟨fuel, hf⟩ := h
  have hf' : DataW.trod enc Try.prog W base sp held fuel 23 [.slice a len cap] = some (D, p) := hf
  obtain ⟨a2, len2, cap2, ps, e, hp⟩ := texts_trod hf'
  injection e with e1 e2 e3
  subst e1 e2 e3
  exact ⟨ps, hp⟩
end Go.Proofs.Ytpjmcpfmnlfmdaa
