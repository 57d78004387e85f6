/- Rows of type Sub: their marks. -/
import Derived.Test.YtgfpcmfcnphalaaRowMk0
import Derived.Deep.RegionHeld3
import Derived.Deep.DeepFit
import Derived.Lib.SmallJoins
namespace Go.Proofs.Ytgfpcmfcnphalaa
set_option linter.unusedSimpArgs false
set_option linter.unusedVariables false
open Go.RowKit

def mk_sb (q k : Nat) : Value := if q % 2 = 1 then .int .i64 (k : Int) else if q % 2 = 0 then .int .i64 (k : Int) else .int .i64 (k : Int)
theorem mk_sb_0 {q k : Nat} {z : Int} (h : q % 2 = 0) (hz : z = (k : Int)) : Value.int .i64 z = mk_sb q k := by
  unfold mk_sb
  rw [if_neg (by omega), if_pos h, hz]
theorem mk_sb_1 {q k : Nat} {z : Int} (h : q % 2 = 1) (hz : z = (k : Int)) : Value.int .i64 z = mk_sb q k := by
  unfold mk_sb
  rw [if_pos h, hz]
theorem MRow.sb {f : Nat → Nat → Value} {k B e g n cap m : Nat} {w W : World} (h : MRow f k w B e 2 g n cap W m) {i : Nat} (hi : i < n) : ∃ u0 u1, (W.cell? ⟨g, i * 2, none⟩ = some u0 ∧ W.cell? ⟨g, i * 2 + 1, none⟩ = some u1) ∧ W.frozen? ⟨g, i * 2, none⟩ = false ∧ W.frozen? ⟨g, i * 2 + 1, none⟩ = false := by
  obtain ⟨⟨u0, c0⟩, f0⟩ := h.there (q := i * 2) (by omega)
  obtain ⟨⟨u1, c1⟩, f1⟩ := h.there (q := i * 2 + 1) (by omega)
  exact ⟨u0, u1, ⟨c0, c1⟩, f0, f1⟩
set_option maxRecDepth 100000 in
set_option maxHeartbeats 1000000 in
theorem mark_sb (B g n cap k0 : Nat) (w : World) (hk : 0 < k0) (hk1 : k0 ≤ 1000000) (hn : n ≤ 1000000) (h : MRow mk_sb k0 w B 32 2 g n cap w 0) :
    Calls Try.prog 52 #[.slice (some ⟨g, 0, none⟩) n cap, .int .i64 (k0 : Int)] w fun e w' => e = .returned (.int .i64 ((k0 : Int) + n * 2)) ∧ MRow mk_sb k0 w B 32 2 g n cap w' (n * 2) := by
  have HH := Lib.hid h
  clear h
  go_enter Try.func52, Try.ntmps52
  go_wp2
  go_loopw [1, 5] (fun kq iq wr => ∃ (i : Nat) (z : Int), i ≤ n ∧ iq = .int .i64 i ∧ kq = .int .i64 z ∧ z = (k0 : Int) + i * 2 ∧ MRow mk_sb k0 w B 32 2 g n cap wr (i * 2)) (fun _ i _ => n - (intOf i).toNat)
  case atStart => exact ⟨0, _, Nat.zero_le _, rfl, rfl, by simp, by simpa using HH.out⟩
  case round =>
    obtain ⟨i, z, hi, rfl, rfl, hz, hM⟩ := hrel
    have hz0 : 0 < z := by omega
    have hz1 : z ≤ 100000000 := by omega
    have HZ := Lib.hid hz
    have HM := Lib.hid hM
    clear hz hM
    by_cases hlt : i < n
    · clear hk hk1
      obtain ⟨u0, u1, ⟨c0, c1⟩, f0, f1⟩ := HM.out.sb hlt
      go_wp2
      go_roundw
      case rel => exact ⟨i + 1, _, by omega, by go_num, rfl, by have := HZ.out; omega, by rw [show (i + 1) * 2 = i * 2 + 1 + 1 by omega]; exact ((HM.out.put (by omega) (mk_sb_0 (by omega) (by have := HZ.out; omega))).put (by omega) (mk_sb_1 (by omega) (by have := HZ.out; omega)))⟩
      case measure => simp [intOf]; omega
    · obtain rfl : i = n := by omega
      go_wp2
      go_ret
      exact ⟨ret_int HZ.out, HM.out⟩
theorem mark_sb_0 (p : Option Addr) (cap k0 : Nat) (w : World) (hk1 : k0 ≤ 1000000) :
    Calls Try.prog 52 #[.slice p 0 cap, .int .i64 (k0 : Int)] w fun e w' => e = .returned (.int .i64 (k0 : Int)) ∧ w = w' := by
  go_enter Try.func52, Try.ntmps52
  go_wp2
  go_loopw [1, 5] (fun kq iq wr => kq = .int .i64 (k0 : Int) ∧ iq = .int .i64 0 ∧ w = wr) (fun _ _ _ => 0)
  case atStart => exact ⟨rfl, rfl, rfl⟩
  case round =>
    obtain ⟨rfl, rfl, rfl⟩ := hrel
    go_wp2
    go_ret
    exact ⟨rfl, rfl⟩
theorem held_sb_0 (p : Option Addr) (cap k0 : Nat) (w : World) (hk1 : k0 ≤ 1000000) :
    Calls Try.prog 53 #[.slice p 0 cap, .int .i64 (k0 : Int)] w fun e w' => e = .returned (.int .i64 (k0 : Int)) ∧ w = w' := by
  go_enter Try.func53, Try.ntmps53
  go_wp2
  go_loopw [1, 5] (fun kq iq wr => kq = .int .i64 (k0 : Int) ∧ iq = .int .i64 0 ∧ w = wr) (fun _ _ _ => 0)
  case atStart => exact ⟨rfl, rfl, rfl⟩
  case round =>
    obtain ⟨rfl, rfl, rfl⟩ := hrel
    go_wp2
    go_ret
    exact ⟨rfl, rfl⟩
abbrev Held_sb (g i : Nat) (z : Int) (wr W : World) : Prop := (W.cell? ⟨g, i * 2, none⟩ = some (.int .i64 (z)) ∧ W.cell? ⟨g, i * 2 + 1, none⟩ = some (.int .i64 (z + 1))) ∧ (Below wr.heap.size wr W ∧ g < wr.heap.size)
theorem held_sb_on {g i : Nat} {z : Int} {wr W W2 : World} (h : Held_sb g i z wr W) (hb : Below W.heap.size W W2) : Held_sb g i z wr W2 := by
  obtain ⟨⟨c0, c1⟩, h1, h2⟩ := h
  have hg : g < W.heap.size := Nat.lt_of_lt_of_le h2 h1.size
  exact ⟨⟨(hb.cell (p := ⟨g, i * 2, none⟩) hg).trans c0, (hb.cell (p := ⟨g, i * 2 + 1, none⟩) hg).trans c1⟩, h1.trans (hb.mono h1.size), h2⟩
theorem held_sb_drew {g i : Nat} {z : Int} {wr W : World} (h : Held_sb g i z wr W) : Held_sb g i z wr W.drew := held_sb_on h (Below.refl _ _).drew
theorem held_sb_of {k0 B g n cap m i : Nat} {z : Int} {w wr : World} (h : MRow mk_sb k0 w B 32 2 g n cap wr m) (hi : i < n) (hm : i * 2 + 2 ≤ m) (hz : z = (k0 : Int) + i * 2) : Held_sb g i z wr wr := by
  refine ⟨⟨?_, ?_⟩, Below.refl _ _, h.lt.2⟩
  · exact (h.cell (by omega) (by omega)).trans (congrArg some (mk_sb_0 (by omega) (by omega)).symm)
  · exact (h.cell (by omega) (by omega)).trans (congrArg some (mk_sb_1 (by omega) (by omega)).symm)
set_option maxRecDepth 100000 in
set_option maxHeartbeats 2000000 in
theorem heldr_sb (B g n cap k0 m : Nat) (w0 w : World) (hk : 0 < k0) (hk1 : k0 ≤ 1000000) (hn : n ≤ 1000000) (h : MRow mk_sb k0 w0 B 32 2 g n cap w m) (hm : m = n * 2) :
    Calls Try.prog 53 #[.slice (some ⟨g, 0, none⟩) n cap, .int .i64 (k0 : Int)] w fun e w' => e = .returned (.int .i64 ((k0 : Int) + n * 2)) ∧ Below w.heap.size w w' := by
  have HH := Lib.hid h
  clear h
  go_enter Try.func53, Try.ntmps53
  go_wp2
  go_loopw [1, 5] (fun kq iq wr => ∃ (i : Nat) (z : Int), i ≤ n ∧ iq = .int .i64 i ∧ kq = .int .i64 z ∧ z = (k0 : Int) + i * 2 ∧ Below w.heap.size w wr) (fun _ i _ => n - (intOf i).toNat)
  case atStart => exact ⟨0, _, Nat.zero_le _, rfl, rfl, by simp, Below.refl _ _⟩
  case round =>
    obtain ⟨i, z, hi, rfl, rfl, hz, hb⟩ := hrel
    have hz0 : 0 < z := by omega
    have hz1 : z ≤ 100000000 := by omega
    have HZ := Lib.hid hz
    have HB := Lib.hid hb
    by_cases hlt : i < n
    · have hS := held_sb_of (HH.out.on hb) hlt (by omega) hz
      have HS := Lib.hid hS
      obtain ⟨⟨c0, c1⟩, _, _⟩ := hS
      clear hz hb hk hk1 hm
      go_wp2
      go_roundw
      case rel => exact ⟨i + 1, _, by omega, by go_num, rfl, by have := HZ.out; omega, HB.out.trans (HS.out.2.1.mono HB.out.size)⟩
      case measure => simp [intOf]; omega
    · obtain rfl : i = n := by omega
      go_wp2
      go_ret
      exact ⟨ret_int HZ.out, HB.out⟩
/-- Marking a slice that the call has made. -/
theorem marks_sb {α : Type} (enc : α → List Value) (B k0 : Nat) (v : Value) (xs : List α) (w : World) (hk : 0 < k0) (hk1 : k0 ≤ 1000000) (hn : xs.length ≤ 1000000) (hB : B ≤ w.heap.size) (h : OwnC enc w B 32 2 v xs) :
    Calls Try.prog 52 #[v, .int .i64 (k0 : Int)] w fun e w' => e = .returned (.int .i64 ((k0 : Int) + xs.length * 2)) ∧ MOwn mk_sb k0 B 32 2 v xs.length w' ∧ MFrame B v w w' := by
  obtain ⟨n, hxn⟩ : ∃ n, xs.length = n := ⟨_, rfl⟩
  rcases Nat.eq_zero_or_pos n with h0 | h0
  · subst h0
    have hv : ∃ p cap, v = .slice p 0 cap := by
      rcases h.2 with ⟨e1, _⟩ | ⟨g, cap, cur, e1, _⟩
      · exact ⟨none, 0, e1⟩
      · exact ⟨_, cap, by rw [e1, hxn]⟩
    obtain ⟨p, cap, rfl⟩ := hv
    rw [hxn]
    refine (mark_sb_0 p cap k0 w hk1).mono ?_
    rintro e w' ⟨rfl, rfl⟩
    exact ⟨by simp, ⟨p, cap, rfl, .inl rfl⟩, Below.refl _ _, Nat.le_refl _, fun _ _ _ => rfl⟩
  · obtain ⟨g, cap, rfl⟩ := Joins.ownsRow_form h (by omega)
    rw [hxn] at h hn ⊢
    refine (mark_sb B g n cap k0 w hk hk1 hn (mrow_of h hB)).mono ?_
    rintro e w' ⟨rfl, hM⟩
    exact ⟨rfl, ⟨_, cap, rfl, .inr ⟨g, w, rfl, hM⟩⟩, hM.2.1, hM.2.2.2.1, fun k hk hne => hM.2.2.2.2 k hk (hne g rfl)⟩
theorem helds_sb (B k0 n : Nat) (v : Value) (w : World) (hk : 0 < k0) (hk1 : k0 ≤ 1000000) (hn : n ≤ 1000000) (h : MOwn mk_sb k0 B 32 2 v n w) :
    Calls Try.prog 53 #[v, .int .i64 (k0 : Int)] w fun e w' => e = .returned (.int .i64 ((k0 : Int) + n * 2)) ∧ Below w.heap.size w w' := by
  obtain ⟨p, cap, rfl, h1⟩ := h
  rcases h1 with rfl | ⟨g, w0, rfl, hM⟩
  · refine (held_sb_0 p cap k0 w hk1).mono ?_
    rintro e w' ⟨rfl, rfl⟩
    exact ⟨by simp, Below.refl _ _⟩
  · exact heldr_sb B g n cap k0 _ w0 w hk hk1 hn hM rfl
end Go.Proofs.Ytgfpcmfcnphalaa
