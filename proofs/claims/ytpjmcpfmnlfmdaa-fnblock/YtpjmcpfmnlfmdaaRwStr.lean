/- Rows of strings: comparison, marks. -/
import Derived.Test.YtpjmcpfmnlfmdaaRowMk
import Derived.Deep.RegionHeld3
import Derived.Deep.DeepFit
import Derived.Lib.SmallJoins
namespace Go.Proofs.Ytpjmcpfmnlfmdaa
set_option linter.unusedSimpArgs false
set_option linter.unusedVariables false
open Go.RowKit

def strC (s : ByteArray) : List Value := [.string s]
theorem strC_len (s : ByteArray) : (strC s).length = 1 := rfl
def mk_ss (q k : Nat) : Value := .string (mkT k)
theorem mk_ss_s {q k : Nat} {z : Int} (hz : z.toNat = k) : Value.string (mkT z.toNat) = mk_ss q k := by unfold mk_ss; rw [hz]
set_option maxRecDepth 100000 in
set_option maxHeartbeats 1000000 in
theorem mark_ss (B g n cap k0 : Nat) (w : World) (hk : 0 < k0) (hk1 : k0 ≤ 1000000) (hn : n ≤ 2000000) (h : MRow mk_ss k0 w B 9 1 g n cap w 0) :
    Calls Try.prog 31 #[.slice (some ⟨g, 0, none⟩) n cap, .int .i64 (k0 : Int)] w fun e w' => e = .returned (.int .i64 ((k0 : Int) + n)) ∧ MRow mk_ss k0 w B 9 1 g n cap w' n := by
  have HH := Lib.hid h
  clear h
  go_enter Try.func31, Try.ntmps31
  go_wp2
  go_loopw [1, 5] (fun kq iq wr => ∃ (i : Nat) (z : Int), i ≤ n ∧ iq = .int .i64 i ∧ kq = .int .i64 z ∧ z = (k0 : Int) + i ∧ MRow mk_ss k0 w B 9 1 g n cap wr i) (fun _ i _ => n - (intOf i).toNat)
  case atStart => exact ⟨0, _, Nat.zero_le _, rfl, rfl, by simp, HH.out⟩
  case round =>
    obtain ⟨i, z, hi, rfl, rfl, hz, hM⟩ := hrel
    have hz0 : 0 < z := by omega
    have hz1 : z ≤ 100000000 := by omega
    have HZ := Lib.hid hz
    have HM := Lib.hid hM
    clear hz hM
    by_cases hlt : i < n
    · clear hk hk1
      go_wp2_with (first
        | (go_at_call 69; go_fit (mark_textI _ _ (by omega) (by omega)); rintro e w0 ⟨rfl, hb0⟩; have HM0 := Lib.hid ((HM.out).on hb0); clear hb0; obtain ⟨⟨u0, c0⟩, f0⟩ := HM0.out.there (q := i) (by omega)))
      go_roundw
      case rel => exact ⟨i + 1, _, by omega, by go_num, rfl, by have := HZ.out; omega, HM0.out.put (by omega) (mk_ss_s (by have := HZ.out; omega))⟩
      case measure => simp [intOf]; omega
    · obtain rfl : i = n := by omega
      go_wp2
      go_ret
      exact ⟨ret_int HZ.out, HM.out⟩
theorem mark_ss_0 (p : Option Addr) (cap k0 : Nat) (w : World) (hk1 : k0 ≤ 1000000) :
    Calls Try.prog 31 #[.slice p 0 cap, .int .i64 (k0 : Int)] w fun e w' => e = .returned (.int .i64 (k0 : Int)) ∧ w = w' := by
  go_enter Try.func31, Try.ntmps31
  go_wp2
  go_loopw [1, 5] (fun kq iq wr => kq = .int .i64 (k0 : Int) ∧ iq = .int .i64 0 ∧ w = wr) (fun _ _ _ => 0)
  case atStart => exact ⟨rfl, rfl, rfl⟩
  case round =>
    obtain ⟨rfl, rfl, rfl⟩ := hrel
    go_wp2
    go_ret
    exact ⟨rfl, rfl⟩
theorem held_ss_0 (p : Option Addr) (cap k0 : Nat) (w : World) (hk1 : k0 ≤ 1000000) :
    Calls Try.prog 70 #[.slice p 0 cap, .int .i64 (k0 : Int)] w fun e w' => e = .returned (.int .i64 (k0 : Int)) ∧ w = w' := by
  go_enter Try.func70, Try.ntmps70
  go_wp2
  go_loopw [1, 5] (fun kq iq wr => kq = .int .i64 (k0 : Int) ∧ iq = .int .i64 0 ∧ w = wr) (fun _ _ _ => 0)
  case atStart => exact ⟨rfl, rfl, rfl⟩
  case round =>
    obtain ⟨rfl, rfl, rfl⟩ := hrel
    go_wp2
    go_ret
    exact ⟨rfl, rfl⟩
abbrev Held_ss (g i : Nat) (z : Int) (wr W : World) : Prop := (W.cell? ⟨g, i, none⟩ = some (.string (mkT (z).toNat))) ∧ (Below wr.heap.size wr W ∧ g < wr.heap.size)
theorem held_ss_on {g i : Nat} {z : Int} {wr W W2 : World} (h : Held_ss g i z wr W) (hb : Below W.heap.size W W2) : Held_ss g i z wr W2 := by
  obtain ⟨c0, h1, h2⟩ := h
  have hg : g < W.heap.size := Nat.lt_of_lt_of_le h2 h1.size
  exact ⟨(hb.cell (p := ⟨g, i, none⟩) hg).trans c0, h1.trans (hb.mono h1.size), h2⟩
theorem held_ss_drew {g i : Nat} {z : Int} {wr W : World} (h : Held_ss g i z wr W) : Held_ss g i z wr W.drew := held_ss_on h (Below.refl _ _).drew
theorem held_ss_of {k0 B g n cap m i : Nat} {z : Int} {w wr : World} (h : MRow mk_ss k0 w B 9 1 g n cap wr m) (hi : i < n) (hm : i + 1 ≤ m) (hz : z = (k0 : Int) + i) : Held_ss g i z wr wr :=
  ⟨(h.cell (by omega) (by omega)).trans (congrArg some (mk_ss_s (by omega)).symm), Below.refl _ _, h.lt.2⟩
set_option maxRecDepth 100000 in
set_option maxHeartbeats 2000000 in
theorem heldr_ss (B g n cap k0 m : Nat) (w0 w : World) (hk : 0 < k0) (hk1 : k0 ≤ 1000000) (hn : n ≤ 2000000) (h : MRow mk_ss k0 w0 B 9 1 g n cap w m) (hm : m = n) :
    Calls Try.prog 70 #[.slice (some ⟨g, 0, none⟩) n cap, .int .i64 (k0 : Int)] w fun e w' => e = .returned (.int .i64 ((k0 : Int) + n)) ∧ Below w.heap.size w w' := by
  have HH := Lib.hid h
  clear h
  go_enter Try.func70, Try.ntmps70
  go_wp2
  go_loopw [1, 5] (fun kq iq wr => ∃ (i : Nat) (z : Int), i ≤ n ∧ iq = .int .i64 i ∧ kq = .int .i64 z ∧ z = (k0 : Int) + i ∧ Below w.heap.size w wr) (fun _ i _ => n - (intOf i).toNat)
  case atStart => exact ⟨0, _, Nat.zero_le _, rfl, rfl, by simp, Below.refl _ _⟩
  case round =>
    obtain ⟨i, z, hi, rfl, rfl, hz, hb⟩ := hrel
    have hz0 : 0 < z := by omega
    have hz1 : z ≤ 100000000 := by omega
    have HZ := Lib.hid hz
    have HB := Lib.hid hb
    by_cases hlt : i < n
    · have hS := held_ss_of (HH.out.on hb) hlt (by omega) hz
      have HS := Lib.hid hS
      obtain ⟨c0, _, _⟩ := hS
      clear hz hb hk hk1 hm
      go_wp2
      go_region_held3 (fun W => (W.cell? ⟨g, i, none⟩ = some (.string (mkT (z).toNat))) ∧ (Below wr.heap.size wr W ∧ g < wr.heap.size))
        (with_reducible first | assumption | exact held_ss_drew HS.out | exact held_ss_on (by assumption) hbN)
        (first | (go_at_call 69; go_fit (mark_textI _ _ (by omega) (by omega)); rintro e wn0 ⟨rfl, hbN⟩; have HS0 := Lib.hid (held_ss_on (z := z) (i := i) (wr := wr) (by assumption) hbN)))
      go_wp2
      go_roundw
      case rel => exact ⟨i + 1, _, by omega, by go_num, rfl, by have := HZ.out; omega, HB.out.trans (HS0.out.2.1.mono HB.out.size)⟩
      case measure => simp [intOf]; omega
    · obtain rfl : i = n := by omega
      go_wp2
      go_ret
      exact ⟨ret_int HZ.out, HB.out⟩
/-- Marking a slice that the call has made. -/
theorem marks_ss (B k0 : Nat) (v : Value) (xs : List ByteArray) (w : World) (hk : 0 < k0) (hk1 : k0 ≤ 1000000) (hn : xs.length ≤ 2000000) (hB : B ≤ w.heap.size) (h : OwnC strC w B 9 1 v xs) :
    Calls Try.prog 31 #[v, .int .i64 (k0 : Int)] w fun e w' => e = .returned (.int .i64 ((k0 : Int) + xs.length)) ∧ MOwn mk_ss k0 B 9 1 v xs.length w' ∧ MFrame B v w w' := by
  obtain ⟨n, hxn⟩ : ∃ n, xs.length = n := ⟨_, rfl⟩
  rcases Nat.eq_zero_or_pos n with h0 | h0
  · subst h0
    have hv : ∃ p cap, v = .slice p 0 cap := by
      rcases h.2 with ⟨e1, _⟩ | ⟨g, cap, cur, e1, _⟩
      · exact ⟨none, 0, e1⟩
      · exact ⟨_, cap, by rw [e1, hxn]⟩
    obtain ⟨p, cap, rfl⟩ := hv
    rw [hxn]
    refine (mark_ss_0 p cap k0 w hk1).mono ?_
    rintro e w' ⟨rfl, rfl⟩
    exact ⟨by simp, ⟨p, cap, rfl, .inl rfl⟩, Below.refl _ _, Nat.le_refl _, fun _ _ _ => rfl⟩
  · obtain ⟨g, cap, rfl⟩ := Joins.ownsRow_form h (by omega)
    rw [hxn] at h hn ⊢
    refine (mark_ss B g n cap k0 w hk hk1 hn (mrow_of h hB)).mono ?_
    rintro e w' ⟨rfl, hM⟩
    exact ⟨rfl, ⟨_, cap, rfl, .inr ⟨g, w, rfl, by rw [Nat.mul_one]; exact hM⟩⟩, hM.2.1, hM.2.2.2.1, fun k hk hne => hM.2.2.2.2 k hk (hne g rfl)⟩
theorem helds_ss (B k0 n : Nat) (v : Value) (w : World) (hk : 0 < k0) (hk1 : k0 ≤ 1000000) (hn : n ≤ 2000000) (h : MOwn mk_ss k0 B 9 1 v n w) :
    Calls Try.prog 70 #[v, .int .i64 (k0 : Int)] w fun e w' => e = .returned (.int .i64 ((k0 : Int) + n)) ∧ Below w.heap.size w w' := by
  obtain ⟨p, cap, rfl, h1⟩ := h
  rcases h1 with rfl | ⟨g, w0, rfl, hM⟩
  · refine (held_ss_0 p cap k0 w hk1).mono ?_
    rintro e w' ⟨rfl, rfl⟩
    exact ⟨by simp, Below.refl _ _⟩
  · exact heldr_ss B g n cap k0 _ w0 w hk hk1 hn hM (by omega)
set_option maxRecDepth 100000 in
set_option maxHeartbeats 2000000 in
theorem eqs_ss (xs : List ByteArray) (p q : Option Addr) (c d : Nat) (w : World) (hn : xs.length ≤ 2000000) (hp : RowC strC 1 w p xs) (hq : RowC strC 1 w q xs) :
    Calls Try.prog 29 #[.slice p xs.length c, .slice q xs.length d] w fun e w' => e = .returned (.bool true) ∧ Below w.heap.size w w' := by
  obtain ⟨n, hxn⟩ : ∃ n, xs.length = n := ⟨_, rfl⟩
  have HP := Lib.hid (fun W (h : Below w.heap.size w W) => hp.on h)
  have HQ := Lib.hid (fun W (h : Below w.heap.size w W) => hq.on h)
  have HN := Lib.hid hxn
  rw [hxn] at hn ⊢
  clear hp hq hxn
  go_enter Try.func29, Try.ntmps29
  go_wp2
  go_loopw [5] (fun iq wr => ∃ i : Nat, i ≤ n ∧ iq = .int .i64 i ∧ Below w.heap.size w wr) (fun i _ => n - (intOf i).toNat)
  case atStart => exact ⟨0, Nat.zero_le _, rfl, Below.refl _ _⟩
  case round =>
    obtain ⟨i, hi, rfl, hb⟩ := hrel
    have HB := Lib.hid hb
    by_cases hlt : i < n
    · have hlt1 : i < xs.length := by rw [HN.out]; exact hlt
      obtain ⟨a, rfl, ha, hc⟩ := HP.out _ hb (List.ne_nil_of_length_pos (by omega))
      obtain ⟨b, rfl, hb0, hd⟩ := HQ.out _ hb (List.ne_nil_of_length_pos (by omega))
      have c0 := hc i hlt1 0 (by decide)
      have d0 := hd i hlt1 0 (by decide)
      obtain ⟨x, hx⟩ : ∃ x, xs[i] = x := ⟨_, rfl⟩
      rw [hx, Nat.mul_one, Nat.add_zero] at c0 d0
      replace c0 : wr.cell? ⟨a, i, none⟩ = some (.string x) := c0
      replace d0 : wr.cell? ⟨b, i, none⟩ = some (.string x) := d0
      clear hc hd hx hb
      go_wp2
      go_region
      all_goals (try go_wp2)
      exact ⟨⟨i + 1, by omega, by go_num, HB.out.drew⟩, by simp [intOf]; omega⟩
    · obtain rfl : i = n := by omega
      clear hb
      go_wp2
      go_ret
      exact ⟨rfl, HB.out⟩
end Go.Proofs.Ytpjmcpfmnlfmdaa
