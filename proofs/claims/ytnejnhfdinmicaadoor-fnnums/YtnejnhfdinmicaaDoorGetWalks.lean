/- What GetNum answers at every string and offset, in the program and in the specification. -/
import Derived.Test.YtnejnhfdinmicaaDoorGroupWalks
import Derived.Test.YtnejnhfdinmicaaDoorAsWalks
namespace Go.Proofs.YtnejnhfdinmicaaDoor
open Go.RowKit

/-- errors.errorType holds what its declaration lays. -/
def ErrLaid (w : World) : Prop := w.cell? ⟨0, 0, none⟩ = some (.iface 74 (.agg #[.pointer (some ⟨1, 45, none⟩)]))
theorem ErrLaid.pos {w : World} (h : ErrLaid w) : 0 < w.heap.size := by
  rcases Nat.eq_zero_or_pos w.heap.size with h0 | h1
  · unfold ErrLaid at h; simp [World.cell?, h0] at h
  · exact h1
theorem ErrLaid.below {w w' : World} (h : ErrLaid w) (hb : Below w.heap.size w w') : ErrLaid w' := (hb.cell (p := ⟨0, 0, none⟩) h.pos).trans h
theorem ErrLaid.alloc {w : World} (h : ErrLaid w) (o : Obj) : ErrLaid (w.alloc o) := (World.cell?_alloc_lt w o ⟨0, 0, none⟩ h.pos).trans h

theorem as_hit2 (b : Nat) (c : Int) (old : Value) (w : World) (hg : ErrLaid w) (ht0 : w.cell? ⟨b, 0, none⟩ = some old) (hf0 : w.frozen? ⟨b, 0, none⟩ = false) :
    Calls Tryd.prog 23 #[.iface 49 (.agg #[.int .i64 c]), .iface 51 (.pointer (some ⟨b, 0, none⟩))] w fun ev w' => ev = .returned (.bool true) ∧ w'.cell? ⟨b, 0, none⟩ = some (.int .i64 c) ∧ Below b w w' := by
  refine (as_hit ⟨b, 0, none⟩ c old w hg ht0 hf0).mono ?_
  rintro ev w' ⟨rfl, rfl⟩
  have hbl : b < w.heap.size := by
    rcases Nat.lt_or_ge b w.heap.size with h | h
    · exact h
    · simp [World.cell?, Array.getElem?_eq_none h] at ht0
  refine ⟨rfl, ?_, ?_⟩
  · unfold asWorld
    refine World.cell?_setCell_same _ _ _ (u := old) ?_
    rw [World.cell?_alloc_lt _ _ ⟨b, 0, none⟩ (by simp; omega), World.cell?_alloc_lt _ _ ⟨b, 0, none⟩ (by simp; omega), World.cell?_alloc_lt _ _ ⟨b, 0, none⟩ (by simp; omega), World.cell?_alloc_lt _ _ ⟨b, 0, none⟩ hbl]
    exact ht0
  · unfold asWorld
    exact (((((Below.refl b w).alloc (by omega) _).alloc (by simp; omega) _).alloc (by simp; omega) _).alloc (by simp; omega) _).setCell (Nat.le_refl b) _

def numOut (n at_ code : Int) : Value := .agg #[.int .i64 n, .int .i64 at_, .int .i64 code]
/-- What GetNum answers where the string and the offset are in their ranges. -/
def getNumIn (at0 : Nat) (r : Nat × Nat × Nat) : Value := if r.1 = 0 then numOut (unzig r.2.1) ((at0 : Int) + (r.2.2 : Int)) 0 else numOut 0 0 (r.1 : Int)
theorem getNumIn_good (at0 u n : Nat) : getNumIn at0 (0, u, n) = numOut (unzig u) ((at0 : Int) + (n : Int)) 0 := rfl
/-- What GetNum answers. -/
def getNumV (s : ByteArray) (at_ : Int) : Value := if 20000 < s.size then numOut 0 0 2 else if at_ < 0 then numOut 0 0 1 else getNumIn at_.toNat (rdL (s.data.toList.drop at_.toNat) 0 0)

/-- The last block but one, and the last block, that a call has laid, behind a call that leaves all below the last one alone. -/
theorem two_kept {w w1 : World} {a b c d : Value} {t u : Nat} (h : Below (w.heap.size + 1) ((w.alloc (.cells #[a, b, c] t)).alloc (.cells #[d] u)) w1) :
    (w1.cell? ⟨w.heap.size, 0, none⟩ = some a ∧ w1.cell? ⟨w.heap.size, 1, none⟩ = some b ∧ w1.cell? ⟨w.heap.size, 2, none⟩ = some c) ∧
    (w1.frozen? ⟨w.heap.size, 0, none⟩ = false ∧ w1.frozen? ⟨w.heap.size, 1, none⟩ = false ∧ w1.frozen? ⟨w.heap.size, 2, none⟩ = false) ∧ w.heap.size < w1.heap.size := by
  have hA : Arr w1 w.heap.size t [a, b, c] := (h.block w.heap.size (by omega)).trans ((Below.heap_alloc _ _ _ (by simp)).trans (Arr.fresh w t [a, b, c]))
  have := h.size
  refine ⟨⟨hA.cell 0, hA.cell 1, hA.cell 2⟩, ⟨hA.free 0, hA.free 1, hA.free 2⟩, ?_⟩
  simp at this
  omega

theorem below_two {w w1 : World} {o p : Obj} (h : Below (w.heap.size + 1) ((w.alloc o).alloc p) w1) : Below w.heap.size w w1 :=
  (((Below.refl _ _).alloc (Nat.le_refl _) o).alloc (by simp) p).trans (h.mono (by omega))

set_option maxRecDepth 100000 in
set_option maxHeartbeats 1000000 in
theorem impl_getnum_bad (s : ByteArray) (at0 : Nat) (c : Nat) (w : World) (hg : ErrLaid w) (hs : s.size ≤ 20000) (ha : (at0 : Int) ≤ 9223372036854775807) (hc : 0 < c) (hr : rdL (s.data.toList.drop at0) 0 0 = (c, 0, 0)) :
    Calls Tryd.prog 9 #[.string s, .int .i64 (at0 : Int)] w fun e w' => e = .returned (numOut 0 0 (c : Int)) ∧ Below w.heap.size w w' := by
  have HR := Lib.hid hr
  clear hr
  have HG := Lib.hid hg
  clear hg
  go_enter Tryd.func9, Tryd.ntmps9
  go_wp2_with (first
    | (go_at_call 22; refine (impl_groups s at0 _ hs ha).mono ?_; rintro e w' ⟨rfl, rfl⟩; rw [HR.out, rdV_bad hc])
    | (go_at_call 23; refine (as_hit2 (w.heap.size + 1) (c : Int) (.int .i64 0) _ ((HG.out.alloc _).alloc _) (by simp) (by simp)).mono ?_; rintro e w1 ⟨rfl, hcc, hb1⟩; obtain ⟨⟨c0, c1, c2⟩, ⟨f0, f1, f2⟩, hz⟩ := two_kept hb1))
  refine bodyPost_ret (v := numOut 0 0 (c : Int)) (by simp [results, Tryd.results9, go_sem, numOut, c0, c1, c2, hz]) rfl ⟨rfl, ?_⟩
  have HB := below_two hb1
  exact ((HB.setCell (Nat.le_refl _) _).setCell (Nat.le_refl _) _).setCell (Nat.le_refl _) _

set_option maxRecDepth 100000 in
set_option maxHeartbeats 1000000 in
theorem impl_getnum_good (s : ByteArray) (at0 u n : Nat) (w : World) (hs : s.size ≤ 20000) (ha : (at0 : Int) ≤ 9223372036854775807) (hr : rdL (s.data.toList.drop at0) 0 0 = (0, u, n)) (hu : u < 18446744073709551616) :
    Calls Tryd.prog 9 #[.string s, .int .i64 (at0 : Int)] w fun e w' => e = .returned (numOut (unzig u) ((at0 : Int) + (n : Int)) 0) ∧ Below w.heap.size w w' := by
  have HR := Lib.hid hr
  clear hr
  have HU := Lib.hid (show (u : Int) ≤ 18446744073709551615 by omega)
  clear hu
  go_enter Tryd.func9, Tryd.ntmps9
  go_wp2_with (first
    | (go_at_call 22; refine (impl_groups s at0 _ hs ha).mono ?_; rintro e w' ⟨rfl, rfl⟩; rw [HR.out, rdV_good])
    | (go_at_call 23; refine (as_nil _ _).mono ?_; rintro e w1 ⟨rfl, rfl⟩)
    | (go_at_call 24; refine (impl_unzigzag u _ HU.out).mono ?_; rintro e w1 ⟨rfl, rfl⟩))
  exact bodyPost_ret (v := numOut (unzig u) ((at0 : Int) + (n : Int)) 0) (by simp [results, Tryd.results9, go_sem, numOut]) rfl ⟨rfl, by
    first
      | exact ((Below.refl _ _).alloc (Nat.le_refl _) _).alloc (by simp) _
      | exact ((((((Below.refl _ _).alloc (Nat.le_refl _) _).alloc (by simp) _).setCell (Nat.le_refl _) _).setCell (Nat.le_refl _) _).setCell (Nat.le_refl _) _)⟩

theorem rdL_code : ∀ (l : List UInt8) (i u : Nat), (rdL l i u).1 = 0 ∨ ∃ c, 0 < c ∧ rdL l i u = (c, 0, 0)
  | [], _, _ => .inr ⟨4, by omega, rfl⟩
  | b :: l, i, u => by
    rw [rdL]
    by_cases h9 : i = 9 ∧ 1 < b.toNat
    · rw [if_pos h9]; exact .inr ⟨3, by omega, rfl⟩
    · rw [if_neg h9]
      by_cases hb : b.toNat < 128
      · rw [if_pos hb]
        by_cases h0 : b.toNat = 0 ∧ 0 < i
        · rw [if_pos h0]; exact .inr ⟨3, by omega, rfl⟩
        · rw [if_neg h0]; exact .inl rfl
      · rw [if_neg hb]
        exact rdL_code l _ _

set_option maxRecDepth 100000 in
set_option maxHeartbeats 1000000 in
theorem impl_getnum (s : ByteArray) (at_ : Int) (w : World) (hg : ErrLaid w) (hs : s.size ≤ 9223372036854775807) (ha : at_ ≤ 9223372036854775807) :
    Calls Tryd.prog 9 #[.string s, .int .i64 at_] w fun e w' => e = .returned (getNumV s at_) ∧ Below w.heap.size w w' := by
  unfold getNumV
  by_cases h1 : 20000 < s.size
  · rw [if_pos h1]
    have HG := Lib.hid hg
    clear hg
    go_enter Tryd.func9, Tryd.ntmps9
    go_wp2
    exact bodyPost_ret (v := numOut 0 0 2) (by simp [results, Tryd.results9, go_sem, numOut]) rfl ⟨rfl, (Below.refl _ _).alloc (Nat.le_refl _) _⟩
  · rw [if_neg h1]
    by_cases h2 : at_ < 0
    · rw [if_pos h2]
      have HG := Lib.hid hg
      clear hg
      go_enter Tryd.func9, Tryd.ntmps9
      go_wp2
      exact bodyPost_ret (v := numOut 0 0 1) (by simp [results, Tryd.results9, go_sem, numOut]) rfl ⟨rfl, (Below.refl _ _).alloc (Nat.le_refl _) _⟩
    · rw [if_neg h2]
      obtain ⟨n, rfl⟩ : ∃ n : Nat, at_ = n := ⟨at_.toNat, by omega⟩
      rw [Int.toNat_natCast]
      rcases rdL_code (s.data.toList.drop n) 0 0 with h | ⟨c, hc, h⟩
      · have hlt := rdL_lt (s.data.toList.drop n) 0 0 (by omega) (by omega)
        rcases hq : rdL (s.data.toList.drop n) 0 0 with ⟨r1, r2, r3⟩
        rw [hq] at h hlt
        obtain rfl : r1 = 0 := h
        exact impl_getnum_good s n r2 r3 w (by omega) ha hq hlt
      · rw [h]
        unfold getNumIn
        rw [if_neg (by show ¬ c = 0; omega)]
        exact impl_getnum_bad s n c w hg (by omega) ha hc h

theorem ret_num {a b c d : Int} (h1 : a = b) (h2 : c = d) : Ending.returned (numOut a c 0) = .returned (numOut b d 0) := by rw [h1, h2]
theorem wrap_grow {i u b : Nat} (h : u + b % 128 * 2 ^ (7 * i) < 18446744073709551616) :
    IntKind.u64.wrap ((u : Int) + IntKind.u64.wrap ((b : Int) % 128 * 2 ^ (7 * i))) = ((u + b % 128 * 2 ^ (7 * i) : Nat) : Int) := by
  have e2 : ((b % 128 : Nat) : Int) * 2 ^ (7 * i) = ((b % 128 * 2 ^ (7 * i) : Nat) : Int) := by rw [Int.natCast_mul, Int.natCast_pow]; rfl
  have e0 : (b : Int) % 128 = ((b % 128 : Nat) : Int) := rfl
  rw [e0, e2, wrap_u64, wrap_u64]
  omega

set_option maxRecDepth 100000 in
set_option maxHeartbeats 1000000 in
theorem spec_getnum_in (s : ByteArray) (at0 : Nat) (w : World) (hs : s.size ≤ 20000) (ha : (at0 : Int) ≤ 9223372036854775807) :
    Calls Tryd.prog 14 #[.string s, .int .i64 (at0 : Int)] w fun e w' => e = .returned (getNumIn at0 (rdL (s.data.toList.drop at0) 0 0)) ∧ Below w.heap.size w w' := by
  go_enter Tryd.func14, Tryd.ntmps14
  go_wp2
  go_loop [5, 6] (fun q j => ∃ i u : Nat, i ≤ 9 ∧ j = .int .i64 (i : Int) ∧ q = .int .u64 (u : Int) ∧ u < 2 ^ (7 * i) ∧ rdL (s.data.toList.drop at0) 0 0 = rdL (s.data.toList.drop (at0 + i)) i u) (fun _ j => 10 - (intOf j).toNat)
  case atStart => exact ⟨0, 0, by omega, rfl, rfl, by omega, rfl⟩
  case round =>
    obtain ⟨i, u, hi, rfl, rfl, hu, hr⟩ := hrel
    have HR := Lib.hid hr
    have HU := Lib.hid hu
    clear hr hu
    by_cases hend : s.size ≤ at0 + i
    · go_wp2
      exact bodyPost_ret (v := numOut 0 0 4) (by simp [results, Tryd.results14, go_sem, numOut]) rfl ⟨by rw [HR.out, rdL_end s _ _ _ hend]; rfl, (Below.refl _ _).alloc (Nat.le_refl _) _⟩
    · have hlt : at0 + i < s.size := by omega
      have h256 : (s[at0 + i].toNat : Int) ≤ 255 := by have := s[at0 + i].toNat_lt; omega
      by_cases h9 : i = 9
      · subst h9
        by_cases hb : 1 < s[at0 + 9].toNat
        · go_wp2
          exact bodyPost_ret (v := numOut 0 0 3) (by simp [results, Tryd.results14, go_sem, numOut]) rfl ⟨by rw [HR.out, rdL_bad s _ _ hlt hb]; rfl, (Below.refl _ _).alloc (Nat.le_refl _) _⟩
        · have hu9 : (u : Int) ≤ 9223372036854775807 := by have := HU.out; omega
          have hlast := rdL_last s (at0 + 9) 9 u hlt (by omega) (by omega)
          by_cases hb0 : s[at0 + 9].toNat = 0
          · have HL := Lib.hid (hlast.trans (if_pos ⟨hb0, by omega⟩))
            clear hlast
            go_wp2
            exact bodyPost_ret (v := numOut 0 0 3) (by simp [results, Tryd.results14, go_sem, numOut]) rfl ⟨by rw [HR.out, HL.out]; rfl, (Below.refl _ _).alloc (Nat.le_refl _) _⟩
          · have hb1 : s[at0 + 9].toNat = 1 := by omega
            have HL := Lib.hid (hlast.trans (if_neg (by omega)))
            clear hlast hb0
            rw [hb1] at HL
            by_cases hpar : (u : Int) % 2 = 1
            · go_wp2
              exact bodyPost_ret (v := numOut (-(((u : Int) + 9223372036854775808) / 2) - 1) ((at0 : Int) + 9 + 1) 0) (by simp [results, Tryd.results14, go_sem, numOut]) rfl ⟨by rw [HR.out, HL.out, getNumIn_good]; exact ret_num (by unfold unzig; rw [if_neg (by omega)]; omega) (by omega), (Below.refl _ _).alloc (Nat.le_refl _) _⟩
            · go_wp2
              exact bodyPost_ret (v := numOut (((u : Int) + 9223372036854775808) / 2) ((at0 : Int) + 9 + 1) 0) (by simp [results, Tryd.results14, go_sem, numOut]) rfl ⟨by rw [HR.out, HL.out, getNumIn_good]; exact ret_num (by unfold unzig; rw [if_pos (by omega)]; omega) (by omega), (Below.refl _ _).alloc (Nat.le_refl _) _⟩
      · obtain ⟨p, hp⟩ : ∃ p : Nat, p = s[at0 + i].toNat % 128 * 2 ^ (7 * i) := ⟨_, rfl⟩
        have hpe : (s[at0 + i].toNat : Int) % 128 * 2 ^ (7 * i) = (p : Int) := by
          rw [hp, Int.natCast_mul, Int.natCast_pow]; rfl
        have hgl := grow_lt (b := s[at0 + i].toNat) HU.out
        rw [← hp] at hgl
        have hup : (u : Int) + (p : Int) ≤ 9223372036854775807 := by
          have : 2 ^ (7 * (i + 1)) ≤ 2 ^ 63 := Nat.pow_le_pow_right (by omega) (by omega)
          omega
        have HGL := Lib.hid hgl
        clear hgl
        by_cases hb : s[at0 + i].toNat < 128
        · have hlast := rdL_last s (at0 + i) i u hlt (by omega) hb
          rw [← hp] at hlast
          have HP := Lib.hid hp
          clear hp
          by_cases hb0 : s[at0 + i].toNat = 0 ∧ 0 < i
          · have HL := Lib.hid (hlast.trans (if_pos hb0))
            obtain ⟨hb0, hi0⟩ := hb0
            clear hlast
            go_wp2
            exact bodyPost_ret (v := numOut 0 0 3) (by simp [results, Tryd.results14, go_sem, numOut]) rfl ⟨by rw [HR.out, HL.out]; rfl, (Below.refl _ _).alloc (Nat.le_refl _) _⟩
          · have HL := Lib.hid (hlast.trans (if_neg hb0))
            clear hlast
            by_cases hpar : ((u : Int) + (p : Int)) % 2 = 1
            · go_wp2
              all_goals exact bodyPost_ret (v := numOut (-(((u : Int) + (p : Int)) / 2) - 1) ((at0 : Int) + (i : Int) + 1) 0) (by simp [results, Tryd.results14, go_sem, numOut]) rfl ⟨by rw [HR.out, HL.out, getNumIn_good]; exact ret_num (by unfold unzig; rw [if_neg (by omega)]; omega) (by omega), (Below.refl _ _).alloc (Nat.le_refl _) _⟩
            · go_wp2
              all_goals exact bodyPost_ret (v := numOut (((u : Int) + (p : Int)) / 2) ((at0 : Int) + (i : Int) + 1) 0) (by simp [results, Tryd.results14, go_sem, numOut]) rfl ⟨by rw [HR.out, HL.out, getNumIn_good]; exact ret_num (by unfold unzig; rw [if_pos (by omega)]; omega) (by omega), (Below.refl _ _).alloc (Nat.le_refl _) _⟩
        · have HM := Lib.hid (rdL_more s (at0 + i) i u hlt (by omega) hb)
          have HP := Lib.hid hp
          clear hp
          go_wp2
          go_round
          case rel => exact ⟨i + 1, u + p, by omega, by go_num, by go_num, HGL.out, by rw [HR.out, HM.out, ← HP.out]; rfl⟩
          case measure => simp [intOf]; omega

set_option maxRecDepth 100000 in
set_option maxHeartbeats 1000000 in
theorem spec_getnum (s : ByteArray) (at_ : Int) (w : World) (hs : s.size ≤ 9223372036854775807) (ha : at_ ≤ 9223372036854775807) :
    Calls Tryd.prog 14 #[.string s, .int .i64 at_] w fun e w' => e = .returned (getNumV s at_) ∧ Below w.heap.size w w' := by
  unfold getNumV
  by_cases h1 : 20000 < s.size
  · rw [if_pos h1]
    go_enter Tryd.func14, Tryd.ntmps14
    go_wp2
    exact bodyPost_ret (v := numOut 0 0 2) (by simp [results, Tryd.results14, go_sem, numOut]) rfl ⟨rfl, (Below.refl _ _).alloc (Nat.le_refl _) _⟩
  · rw [if_neg h1]
    by_cases h2 : at_ < 0
    · rw [if_pos h2]
      go_enter Tryd.func14, Tryd.ntmps14
      go_wp2
      exact bodyPost_ret (v := numOut 0 0 1) (by simp [results, Tryd.results14, go_sem, numOut]) rfl ⟨rfl, (Below.refl _ _).alloc (Nat.le_refl _) _⟩
    · rw [if_neg h2]
      obtain ⟨n, rfl⟩ : ∃ n : Nat, at_ = n := ⟨at_.toNat, by omega⟩
      rw [Int.toNat_natCast]
      exact spec_getnum_in s n w (by omega) ha

theorem getNumV_form (s : ByteArray) (at_ : Int) : ∃ n a c, getNumV s at_ = numOut n a c := by
  unfold getNumV getNumIn
  split
  · exact ⟨_, _, _, rfl⟩
  · split
    · exact ⟨_, _, _, rfl⟩
    · split
      · exact ⟨_, _, _, rfl⟩
      · exact ⟨_, _, _, rfl⟩

set_option maxRecDepth 100000 in
theorem eq_numout (n a c : Int) (w : World) :
    Calls Tryd.prog 15 #[numOut n a c, numOut n a c] w fun e w' => e = .returned (.bool true) ∧ Below w.heap.size w w' := by
  unfold numOut
  go_enter Tryd.func15, Tryd.ntmps15
  go_wp2
  go_ret
  exact ⟨rfl, ((Below.refl _ _).alloc (Nat.le_refl _) _).alloc (by simp) _⟩
end Go.Proofs.YtnejnhfdinmicaaDoor
