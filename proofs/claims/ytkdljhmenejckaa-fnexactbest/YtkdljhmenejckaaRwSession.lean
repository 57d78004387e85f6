/- Rows of type Session: their marks. -/
import Derived.Test.YtkdljhmenejckaaRowMk
import Derived.Deep.RegionHeld3
import Derived.Deep.DeepFit
import Derived.Lib.SmallJoins
namespace Go.Proofs.Ytkdljhmenejckaa
set_option linter.unusedSimpArgs false
set_option linter.unusedVariables false
open Go.RowKit

def mk_se (q k : Nat) : Value := if q % 4 = 2 then .int .i64 (k : Int) else if q % 4 = 1 then .bool (decide (k % 3 = 0)) else .string (mkT k)
theorem mk_se_s {q k : Nat} {z : Int} (h2 : q % 4 ≠ 2) (h1 : q % 4 ≠ 1) (hz : z.toNat = k) : Value.string (mkT z.toNat) = mk_se q k := by
  unfold mk_se
  rw [if_neg h2, if_neg h1, hz]
theorem mk_se_2 {q k : Nat} {z : Int} (h : q % 4 = 2) (hz : z = (k : Int)) : Value.int .i64 z = mk_se q k := by
  unfold mk_se
  rw [if_pos h, hz]
theorem mk_se_1 {q k : Nat} {z : Int} (h : q % 4 = 1) (hz : z = (k : Int)) : Value.bool (z % 3 == 0) = mk_se q k := by
  unfold mk_se
  rw [if_neg (by omega), if_pos h, hz]
  congr 1
  rw [Bool.eq_iff_iff, beq_iff_eq, decide_eq_true_eq]
  omega
theorem MRow.se {f : Nat → Nat → Value} {k B e g n cap m : Nat} {w W : World} (h : MRow f k w B e 4 g n cap W m) {i : Nat} (hi : i < n) : ∃ u0 u1 u2 u3, (W.cell? ⟨g, i * 4, none⟩ = some u0 ∧ W.cell? ⟨g, i * 4 + 1, none⟩ = some u1 ∧ W.cell? ⟨g, i * 4 + 2, none⟩ = some u2 ∧ W.cell? ⟨g, i * 4 + 3, none⟩ = some u3) ∧ W.frozen? ⟨g, i * 4, none⟩ = false ∧ W.frozen? ⟨g, i * 4 + 1, none⟩ = false ∧ W.frozen? ⟨g, i * 4 + 2, none⟩ = false ∧ W.frozen? ⟨g, i * 4 + 3, none⟩ = false := by
  obtain ⟨⟨u0, c0⟩, f0⟩ := h.there (q := i * 4) (by omega)
  obtain ⟨⟨u1, c1⟩, f1⟩ := h.there (q := i * 4 + 1) (by omega)
  obtain ⟨⟨u2, c2⟩, f2⟩ := h.there (q := i * 4 + 2) (by omega)
  obtain ⟨⟨u3, c3⟩, f3⟩ := h.there (q := i * 4 + 3) (by omega)
  exact ⟨u0, u1, u2, u3, ⟨c0, c1, c2, c3⟩, f0, f1, f2, f3⟩
set_option maxRecDepth 100000 in
set_option maxHeartbeats 1000000 in
theorem mark_se (B g n cap k0 : Nat) (w : World) (hk : 0 < k0) (hk1 : k0 ≤ 1000000) (hn : n ≤ 2000000) (h : MRow mk_se k0 w B 42 4 g n cap w 0) :
    Calls Try.prog 38 #[.slice (some ⟨g, 0, none⟩) n cap, .int .i64 (k0 : Int)] w fun e w' => e = .returned (.int .i64 ((k0 : Int) + n * 4)) ∧ MRow mk_se k0 w B 42 4 g n cap w' (n * 4) := by
  have HH := Lib.hid h
  clear h
  go_enter Try.func38, Try.ntmps38
  go_wp2
  go_loopw [1, 5] (fun kq iq wr => ∃ (i : Nat) (z : Int), i ≤ n ∧ iq = .int .i64 i ∧ kq = .int .i64 z ∧ z = (k0 : Int) + i * 4 ∧ MRow mk_se k0 w B 42 4 g n cap wr (i * 4)) (fun _ i _ => n - (intOf i).toNat)
  case atStart => exact ⟨0, _, Nat.zero_le _, rfl, rfl, by simp, by simpa using HH.out⟩
  case round =>
    obtain ⟨i, z, hi, rfl, rfl, hz, hM⟩ := hrel
    have hz0 : 0 < z := by omega
    have hz1 : z ≤ 100000000 := by omega
    have HZ := Lib.hid hz
    have HM := Lib.hid hM
    clear hz hM
    by_cases hlt : i < n
    · clear hk hk1
      go_wp2_with (first
        | (go_at_call 83; have _ := HM0; go_fit (mark_textI _ _ (by omega) (by omega)); rintro e w3 ⟨rfl, hb3⟩; have HM3 := Lib.hid (((((HM0.out.put (by omega) (mk_se_s (by omega) (by omega) (by have := HZ.out; omega))).put (by omega) (mk_se_1 (by omega) (by have := HZ.out; omega))).put (by omega) (mk_se_2 (by omega) (by have := HZ.out; omega)))).on hb3); clear hb3; obtain ⟨u0, u1, u2, u3, ⟨c0, c1, c2, c3⟩, f0, f1, f2, f3⟩ := HM3.out.se hlt)
        | (go_at_call 83; go_fit (mark_textI _ _ (by omega) (by omega)); rintro e w0 ⟨rfl, hb0⟩; have HM0 := Lib.hid ((HM.out).on hb0); clear hb0; obtain ⟨u0, u1, u2, u3, ⟨c0, c1, c2, c3⟩, f0, f1, f2, f3⟩ := HM0.out.se hlt))
      go_roundw
      case rel => exact ⟨i + 1, _, by omega, by go_num, rfl, by have := HZ.out; omega, by rw [show (i + 1) * 4 = i * 4 + 3 + 1 by omega]; exact (HM3.out.put (by omega) (mk_se_s (by omega) (by omega) (by have := HZ.out; omega)))⟩
      case measure => simp [intOf]; omega
    · obtain rfl : i = n := by omega
      go_wp2
      go_ret
      exact ⟨ret_int HZ.out, HM.out⟩
theorem mark_se_0 (p : Option Addr) (cap k0 : Nat) (w : World) (hk1 : k0 ≤ 1000000) :
    Calls Try.prog 38 #[.slice p 0 cap, .int .i64 (k0 : Int)] w fun e w' => e = .returned (.int .i64 (k0 : Int)) ∧ w = w' := by
  go_enter Try.func38, Try.ntmps38
  go_wp2
  go_loopw [1, 5] (fun kq iq wr => kq = .int .i64 (k0 : Int) ∧ iq = .int .i64 0 ∧ w = wr) (fun _ _ _ => 0)
  case atStart => exact ⟨rfl, rfl, rfl⟩
  case round =>
    obtain ⟨rfl, rfl, rfl⟩ := hrel
    go_wp2
    go_ret
    exact ⟨rfl, rfl⟩
theorem held_se_0 (p : Option Addr) (cap k0 : Nat) (w : World) (hk1 : k0 ≤ 1000000) :
    Calls Try.prog 119 #[.slice p 0 cap, .int .i64 (k0 : Int)] w fun e w' => e = .returned (.int .i64 (k0 : Int)) ∧ w = w' := by
  go_enter Try.func119, Try.ntmps119
  go_wp2
  go_loopw [1, 5] (fun kq iq wr => kq = .int .i64 (k0 : Int) ∧ iq = .int .i64 0 ∧ w = wr) (fun _ _ _ => 0)
  case atStart => exact ⟨rfl, rfl, rfl⟩
  case round =>
    obtain ⟨rfl, rfl, rfl⟩ := hrel
    go_wp2
    go_ret
    exact ⟨rfl, rfl⟩
abbrev Held_se (g i : Nat) (z : Int) (wr W : World) : Prop := (W.cell? ⟨g, i * 4, none⟩ = some (.string (mkT (z).toNat)) ∧ W.cell? ⟨g, i * 4 + 1, none⟩ = some (.bool ((z + 1) % 3 == 0)) ∧ W.cell? ⟨g, i * 4 + 2, none⟩ = some (.int .i64 (z + 1 + 1)) ∧ W.cell? ⟨g, i * 4 + 3, none⟩ = some (.string (mkT (z + 1 + 1 + 1).toNat))) ∧ (Below wr.heap.size wr W ∧ g < wr.heap.size)
theorem held_se_on {g i : Nat} {z : Int} {wr W W2 : World} (h : Held_se g i z wr W) (hb : Below W.heap.size W W2) : Held_se g i z wr W2 := by
  obtain ⟨⟨c0, c1, c2, c3⟩, h1, h2⟩ := h
  have hg : g < W.heap.size := Nat.lt_of_lt_of_le h2 h1.size
  exact ⟨⟨(hb.cell (p := ⟨g, i * 4, none⟩) hg).trans c0, (hb.cell (p := ⟨g, i * 4 + 1, none⟩) hg).trans c1, (hb.cell (p := ⟨g, i * 4 + 2, none⟩) hg).trans c2, (hb.cell (p := ⟨g, i * 4 + 3, none⟩) hg).trans c3⟩, h1.trans (hb.mono h1.size), h2⟩
theorem held_se_drew {g i : Nat} {z : Int} {wr W : World} (h : Held_se g i z wr W) : Held_se g i z wr W.drew := held_se_on h (Below.refl _ _).drew
theorem held_se_of {k0 B g n cap m i : Nat} {z : Int} {w wr : World} (h : MRow mk_se k0 w B 42 4 g n cap wr m) (hi : i < n) (hm : i * 4 + 4 ≤ m) (hz : z = (k0 : Int) + i * 4) : Held_se g i z wr wr := by
  refine ⟨⟨?_, ?_, ?_, ?_⟩, Below.refl _ _, h.lt.2⟩
  · exact (h.cell (by omega) (by omega)).trans (congrArg some (mk_se_s (by omega) (by omega) (by omega)).symm)
  · exact (h.cell (by omega) (by omega)).trans (congrArg some (mk_se_1 (by omega) (by omega)).symm)
  · exact (h.cell (by omega) (by omega)).trans (congrArg some (mk_se_2 (by omega) (by omega)).symm)
  · exact (h.cell (by omega) (by omega)).trans (congrArg some (mk_se_s (by omega) (by omega) (by omega)).symm)
set_option maxRecDepth 100000 in
set_option maxHeartbeats 2000000 in
theorem heldr_se (B g n cap k0 m : Nat) (w0 w : World) (hk : 0 < k0) (hk1 : k0 ≤ 1000000) (hn : n ≤ 2000000) (h : MRow mk_se k0 w0 B 42 4 g n cap w m) (hm : m = n * 4) :
    Calls Try.prog 119 #[.slice (some ⟨g, 0, none⟩) n cap, .int .i64 (k0 : Int)] w fun e w' => e = .returned (.int .i64 ((k0 : Int) + n * 4)) ∧ Below w.heap.size w w' := by
  have HH := Lib.hid h
  clear h
  go_enter Try.func119, Try.ntmps119
  go_wp2
  go_loopw [1, 5] (fun kq iq wr => ∃ (i : Nat) (z : Int), i ≤ n ∧ iq = .int .i64 i ∧ kq = .int .i64 z ∧ z = (k0 : Int) + i * 4 ∧ Below w.heap.size w wr) (fun _ i _ => n - (intOf i).toNat)
  case atStart => exact ⟨0, _, Nat.zero_le _, rfl, rfl, by simp, Below.refl _ _⟩
  case round =>
    obtain ⟨i, z, hi, rfl, rfl, hz, hb⟩ := hrel
    have hz0 : 0 < z := by omega
    have hz1 : z ≤ 100000000 := by omega
    have HZ := Lib.hid hz
    have HB := Lib.hid hb
    by_cases hlt : i < n
    · have hS := held_se_of (HH.out.on hb) hlt (by omega) hz
      have HS := Lib.hid hS
      obtain ⟨⟨c0, c1, c2, c3⟩, _, _⟩ := hS
      clear hz hb hk hk1 hm
      go_wp2
      go_region_held3 (fun W => (W.cell? ⟨g, i * 4, none⟩ = some (.string (mkT (z).toNat)) ∧ W.cell? ⟨g, i * 4 + 1, none⟩ = some (.bool ((z + 1) % 3 == 0)) ∧ W.cell? ⟨g, i * 4 + 2, none⟩ = some (.int .i64 (z + 1 + 1)) ∧ W.cell? ⟨g, i * 4 + 3, none⟩ = some (.string (mkT (z + 1 + 1 + 1).toNat))) ∧ (Below wr.heap.size wr W ∧ g < wr.heap.size))
        (with_reducible first | assumption | exact held_se_drew HS.out | exact held_se_on (by assumption) hbN)
        (first | (go_at_call 83; go_fit (mark_textI _ _ (by omega) (by omega)); rintro e wn0 ⟨rfl, hbN⟩; have HS0 := Lib.hid (held_se_on (z := z) (i := i) (wr := wr) (by assumption) hbN); obtain ⟨⟨d0, d1, d2, d3⟩, _, _⟩ := HS0.out))
      go_wp2
      go_region_held3 (fun W => (W.cell? ⟨g, i * 4, none⟩ = some (.string (mkT (z).toNat)) ∧ W.cell? ⟨g, i * 4 + 1, none⟩ = some (.bool ((z + 1) % 3 == 0)) ∧ W.cell? ⟨g, i * 4 + 2, none⟩ = some (.int .i64 (z + 1 + 1)) ∧ W.cell? ⟨g, i * 4 + 3, none⟩ = some (.string (mkT (z + 1 + 1 + 1).toNat))) ∧ (Below wr.heap.size wr W ∧ g < wr.heap.size))
        (with_reducible first | assumption | exact held_se_drew HS0.out | exact held_se_on (by assumption) hbN)
        (first | (go_at_call 83; go_fit (mark_textI _ _ (by omega) (by omega)); rintro e wn3 ⟨rfl, hbN⟩; have HS3 := Lib.hid (held_se_on (z := z) (i := i) (wr := wr) (by assumption) hbN); obtain ⟨⟨d0, d1, d2, d3⟩, _, _⟩ := HS3.out))
      go_wp2
      go_roundw
      case rel => exact ⟨i + 1, _, by omega, by go_num, rfl, by have := HZ.out; omega, HB.out.trans (HS3.out.2.1.mono HB.out.size)⟩
      case measure => simp [intOf]; omega
    · obtain rfl : i = n := by omega
      go_wp2
      go_ret
      exact ⟨ret_int HZ.out, HB.out⟩
/-- Marking a slice that the call has made. -/
theorem marks_se {α : Type} (enc : α → List Value) (B k0 : Nat) (v : Value) (xs : List α) (w : World) (hk : 0 < k0) (hk1 : k0 ≤ 1000000) (hn : xs.length ≤ 2000000) (hB : B ≤ w.heap.size) (h : OwnC enc w B 42 4 v xs) :
    Calls Try.prog 38 #[v, .int .i64 (k0 : Int)] w fun e w' => e = .returned (.int .i64 ((k0 : Int) + xs.length * 4)) ∧ MOwn mk_se k0 B 42 4 v xs.length w' ∧ MFrame B v w w' := by
  obtain ⟨n, hxn⟩ : ∃ n, xs.length = n := ⟨_, rfl⟩
  rcases Nat.eq_zero_or_pos n with h0 | h0
  · subst h0
    have hv : ∃ p cap, v = .slice p 0 cap := by
      rcases h.2 with ⟨e1, _⟩ | ⟨g, cap, cur, e1, _⟩
      · exact ⟨none, 0, e1⟩
      · exact ⟨_, cap, by rw [e1, hxn]⟩
    obtain ⟨p, cap, rfl⟩ := hv
    rw [hxn]
    refine (mark_se_0 p cap k0 w hk1).mono ?_
    rintro e w' ⟨rfl, rfl⟩
    exact ⟨by simp, ⟨p, cap, rfl, .inl rfl⟩, Below.refl _ _, Nat.le_refl _, fun _ _ _ => rfl⟩
  · obtain ⟨g, cap, rfl⟩ := Joins.ownsRow_form h (by omega)
    rw [hxn] at h hn ⊢
    refine (mark_se B g n cap k0 w hk hk1 hn (mrow_of h hB)).mono ?_
    rintro e w' ⟨rfl, hM⟩
    exact ⟨rfl, ⟨_, cap, rfl, .inr ⟨g, w, rfl, hM⟩⟩, hM.2.1, hM.2.2.2.1, fun k hk hne => hM.2.2.2.2 k hk (hne g rfl)⟩
theorem helds_se (B k0 n : Nat) (v : Value) (w : World) (hk : 0 < k0) (hk1 : k0 ≤ 1000000) (hn : n ≤ 2000000) (h : MOwn mk_se k0 B 42 4 v n w) :
    Calls Try.prog 119 #[v, .int .i64 (k0 : Int)] w fun e w' => e = .returned (.int .i64 ((k0 : Int) + n * 4)) ∧ Below w.heap.size w w' := by
  obtain ⟨p, cap, rfl, h1⟩ := h
  rcases h1 with rfl | ⟨g, w0, rfl, hM⟩
  · refine (held_se_0 p cap k0 w hk1).mono ?_
    rintro e w' ⟨rfl, rfl⟩
    exact ⟨by simp, Below.refl _ _⟩
  · exact heldr_se B g n cap k0 _ w0 w hk hk1 hn hM rfl
end Go.Proofs.Ytkdljhmenejckaa
