/- What impl.readGroups and impl.unzigzag answer. -/
import Derived.Test.YtnejnhfdinmicaaDoorChecked
import Derived.Test.YtnejnhfdinmicaaDoorMath
import Derived.Test.YtnejnhfdinmicaaDoorJumps
namespace Go.Proofs.YtnejnhfdinmicaaDoor
open Go.RowKit

/-- The groups of seven bits read off some bytes, the i-th of them first, behind the number u: the code, the number, how many groups there are. -/
def rdL : List UInt8 → Nat → Nat → Nat × Nat × Nat
  | [], _, _ => (4, 0, 0)
  | b :: l, i, u => if i = 9 ∧ 1 < b.toNat then (3, 0, 0) else if b.toNat < 128 then (if b.toNat = 0 ∧ 0 < i then (3, 0, 0) else (0, u + b.toNat % 128 * 2 ^ (7 * i), i + 1)) else rdL l (i + 1) (u + b.toNat % 128 * 2 ^ (7 * i))

theorem rdL_end (s : ByteArray) (k i u : Nat) (h : s.size ≤ k) : rdL (s.data.toList.drop k) i u = (4, 0, 0) := by
  rw [List.drop_eq_nil_of_le (by rw [Array.length_toList]; exact h)]
  rfl
theorem drop_cons (s : ByteArray) (k : Nat) (h : k < s.size) : s.data.toList.drop k = s[k] :: s.data.toList.drop (k + 1) := by
  rw [List.drop_eq_getElem_cons (by rw [Array.length_toList]; exact h)]
  rfl
theorem rdL_bad (s : ByteArray) (k u : Nat) (h : k < s.size) (hb : 1 < s[k].toNat) : rdL (s.data.toList.drop k) 9 u = (3, 0, 0) := by
  rw [drop_cons s k h, rdL, if_pos ⟨rfl, hb⟩]
theorem rdL_last (s : ByteArray) (k i u : Nat) (h : k < s.size) (h9 : ¬ (i = 9 ∧ 1 < s[k].toNat)) (hb : s[k].toNat < 128) :
    rdL (s.data.toList.drop k) i u = if s[k].toNat = 0 ∧ 0 < i then (3, 0, 0) else (0, u + s[k].toNat % 128 * 2 ^ (7 * i), i + 1) := by
  rw [drop_cons s k h, rdL, if_neg h9, if_pos hb]
theorem rdL_more (s : ByteArray) (k i u : Nat) (h : k < s.size) (h9 : ¬ (i = 9 ∧ 1 < s[k].toNat)) (hb : ¬ s[k].toNat < 128) :
    rdL (s.data.toList.drop k) i u = rdL (s.data.toList.drop (k + 1)) (i + 1) (u + s[k].toNat % 128 * 2 ^ (7 * i)) := by
  rw [drop_cons s k h, rdL, if_neg h9, if_neg hb]
theorem grow_lt {i u b : Nat} (hu : u < 2 ^ (7 * i)) : u + b % 128 * 2 ^ (7 * i) < 2 ^ (7 * (i + 1)) := by
  have e : 2 ^ (7 * (i + 1)) = 128 * 2 ^ (7 * i) := by rw [Nat.mul_add, Nat.pow_add]; omega
  have : b % 128 * 2 ^ (7 * i) ≤ 127 * 2 ^ (7 * i) := Nat.mul_le_mul_right _ (by omega)
  rw [e]
  omega
theorem and127 {b : Nat} (hb : b < 256) : bits BinOp.and IntKind.u8 (b : Int) 127 = ((b % 128 : Nat) : Int) := by
  have := u8_and_nat b 127 hb (by omega)
  rw [nat_mask7] at this
  exact this
theorem or_shift {i u b : Nat} (hb : b < 256) (hu : u < 2 ^ (7 * i)) (hp : b % 128 * 2 ^ (7 * i) < 18446744073709551616) (hul : u < 18446744073709551616) :
    bits BinOp.or IntKind.u64 (u : Int) (IntKind.u64.wrap (IntKind.u64.wrap (bits BinOp.and IntKind.u8 (b : Int) 127) * 2 ^ (7 * i))) = ((u + b % 128 * 2 ^ (7 * i) : Nat) : Int) := by
  have e1 : IntKind.u64.wrap (((b % 128 : Nat)) : Int) = ((b % 128 : Nat) : Int) := by rw [wrap_u64]; omega
  have e2 : ((b % 128 : Nat) : Int) * 2 ^ (7 * i) = ((b % 128 * 2 ^ (7 * i) : Nat) : Int) := by rw [Int.natCast_mul, Int.natCast_pow]; rfl
  have e3 : IntKind.u64.wrap ((b % 128 * 2 ^ (7 * i) : Nat) : Int) = ((b % 128 * 2 ^ (7 * i) : Nat) : Int) := by rw [wrap_u64]; omega
  rw [and127 hb, e1, e2, e3, u64_or_nat _ _ hul hp, Nat.or_comm, nat_join (7 * i) _ _ (Nat.mul_mod_left _ _) hu, Nat.add_comm]
theorem or_shift0 {b : Nat} (hb : b < 256) : bits BinOp.or IntKind.u64 0 (IntKind.u64.wrap (IntKind.u64.wrap (bits BinOp.and IntKind.u8 (b : Int) 127))) = ((b % 128 : Nat) : Int) := by
  have e1 : IntKind.u64.wrap (((b % 128 : Nat)) : Int) = ((b % 128 : Nat) : Int) := by rw [wrap_u64]; omega
  have := u64_or_nat 0 (b % 128) (by omega) (by omega)
  rw [and127 hb, e1, e1]
  simpa using this
theorem or_shift9 {u b : Nat} (hb : b < 256) (hu : u < 2 ^ (7 * 9)) (h1 : b ≤ 1) :
    bits BinOp.or IntKind.u64 (u : Int) (IntKind.u64.wrap (IntKind.u64.wrap (bits BinOp.and IntKind.u8 (b : Int) 127) * 9223372036854775808)) = ((u + b % 128 * 2 ^ (7 * 9) : Nat) : Int) := by
  have h := or_shift (i := 9) hb hu (by have h2 : b % 128 * 2 ^ (7 * 9) ≤ 1 * 2 ^ (7 * 9) := Nat.mul_le_mul_right _ (by omega)
                                        omega) (by omega)
  rwa [show (2 : Int) ^ (7 * 9) = 9223372036854775808 from rfl] at h
theorem pow_le {i : Nat} (h : i ≤ 8) : 128 * 2 ^ (7 * i) ≤ 9223372036854775808 := by
  have : 2 ^ (7 * i) ≤ 2 ^ 56 := Nat.pow_le_pow_right (by omega) (by omega)
  omega
theorem rdL_lt : ∀ (l : List UInt8) (i u : Nat), i ≤ 9 → u < 2 ^ (7 * i) → (rdL l i u).2.1 < 18446744073709551616
  | [], _, _, _, _ => by simp [rdL]
  | b :: l, i, u, hi, hu => by
    rw [rdL]
    by_cases h9 : i = 9 ∧ 1 < b.toNat
    · rw [if_pos h9]; simp
    · rw [if_neg h9]
      by_cases hb : b.toNat < 128
      · rw [if_pos hb]
        by_cases h0 : b.toNat = 0 ∧ 0 < i
        · rw [if_pos h0]; simp
        · rw [if_neg h0]
          by_cases h : i = 9
          · subst h
            have : b.toNat % 128 ≤ 1 := by omega
            have h2 : b.toNat % 128 * 2 ^ (7 * 9) ≤ 1 * 2 ^ (7 * 9) := Nat.mul_le_mul_right _ this
            show u + b.toNat % 128 * 2 ^ (7 * 9) < _
            omega
          · have := grow_lt (b := b.toNat) hu
            have h3 : 2 ^ (7 * (i + 1)) ≤ 2 ^ 63 := Nat.pow_le_pow_right (by omega) (by omega)
            show u + b.toNat % 128 * 2 ^ (7 * i) < _
            omega
      · rw [if_neg hb]
        have h : ¬ i = 9 := by omega
        exact rdL_lt l (i + 1) _ (by omega) (grow_lt hu)

/-- What readGroups answers. -/
def rdV (at0 : Nat) (r : Nat × Nat × Nat) : Value :=
  if r.1 = 0 then .tuple #[.int .u64 (r.2.1 : Int), .int .i64 ((at0 : Int) + (r.2.2 : Int)), .nilIface] else .tuple #[.int .u64 0, .int .i64 0, .iface 49 (.agg #[.int .i64 (r.1 : Int)])]

theorem rdV_bad {at0 c : Nat} (h : 0 < c) : rdV at0 (c, 0, 0) = .tuple #[.int .u64 0, .int .i64 0, .iface 49 (.agg #[.int .i64 (c : Int)])] := by unfold rdV; rw [if_neg (by show ¬ c = 0; omega)]
theorem rdV_good {at0 u n : Nat} : rdV at0 (0, u, n) = .tuple #[.int .u64 (u : Int), .int .i64 ((at0 : Int) + (n : Int)), .nilIface] := rfl
def atWrong (s : ByteArray) (at0 : Nat) (a : Act) : Prop := ∃ (c : Nat) (at_ u : Int) (b : Value) (sh : Int) (u11 u12 u13 u14 u15 u16 u17 u18 u19 u20 u21 u22 u23 u24 u25 u26 u27 u28 u29 u30 u31 u32 u33 u34 u35 u36 u37 u38 u39 u40 u41 u42 u43 u44 u45 u46 u47 : Value), a = { tmps := #[.string s, .int .i64 at_, undef, undef, .int .u64 0, .int .i64 0, .nilIface, .int .u64 u, b, .int .u64 sh, .int .i64 (c : Int), u11, u12, u13, u14, u15, u16, u17, u18, u19, u20, u21, u22, u23, u24, u25, u26, u27, u28, u29, u30, u31, u32, u33, u34, u35, u36, u37, u38, u39, u40, u41, u42, u43, u44, u45, u46, u47], defers := [] } ∧ 0 < c ∧ rdL (s.data.toList.drop at0) 0 0 = (c, 0, 0)
def atMore (s : ByteArray) (at0 : Nat) (a : Act) : Prop := ∃ (i u : Nat) (b : Value) (u11 u12 u13 u14 u15 u16 u17 u18 u19 u20 u21 u22 u23 u24 u25 u26 u27 u28 u29 u30 u31 u32 u33 u34 u35 u36 u37 u38 u39 u40 u41 u42 u43 u44 u45 u46 u47 : Value), a = { tmps := #[.string s, .int .i64 ((at0 : Int) + (i : Int)), undef, undef, .int .u64 0, .int .i64 0, .nilIface, .int .u64 (u : Int), b, .int .u64 (7 * (i : Int)), .int .i64 0, u11, u12, u13, u14, u15, u16, u17, u18, u19, u20, u21, u22, u23, u24, u25, u26, u27, u28, u29, u30, u31, u32, u33, u34, u35, u36, u37, u38, u39, u40, u41, u42, u43, u44, u45, u46, u47], defers := [] } ∧ i ≤ 9 ∧ u < 2 ^ (7 * i) ∧ rdL (s.data.toList.drop at0) 0 0 = rdL (s.data.toList.drop (at0 + i)) i u
def atLast (s : ByteArray) (at0 : Nat) (a : Act) : Prop := ∃ (i u b : Nat) (u11 u12 u13 u14 u15 u16 u17 u18 u19 u20 u21 u22 u23 u24 u25 u26 u27 u28 u29 u30 u31 u32 u33 u34 u35 u36 u37 u38 u39 u40 u41 u42 u43 u44 u45 u46 u47 : Value), a = { tmps := #[.string s, .int .i64 ((at0 : Int) + (i : Int) + 1), undef, undef, .int .u64 0, .int .i64 0, .nilIface, .int .u64 (u : Int), .int .u8 (b : Int), .int .u64 (7 * (i : Int)), .int .i64 0, u11, u12, u13, u14, u15, u16, u17, u18, u19, u20, u21, u22, u23, u24, u25, u26, u27, u28, u29, u30, u31, u32, u33, u34, u35, u36, u37, u38, u39, u40, u41, u42, u43, u44, u45, u46, u47], defers := [] } ∧ i ≤ 9 ∧ rdL (s.data.toList.drop at0) 0 0 = if b = 0 ∧ 0 < i then (3, 0, 0) else (0, u, i + 1)
def atLabel (s : ByteArray) (at0 : Nat) (w : World) (l : Nat) (a : Act) (w' : World) : Prop := w = w' ∧ (l = 0 ∧ atWrong s at0 a ∨ l = 1 ∧ atMore s at0 a ∨ l = 2 ∧ atLast s at0 a)
def grMeasure (l : Nat) (a : Act) (_ : World) : Nat := if l = 0 then 1 else if l = 2 then 2 else 3 + (70 - (intOf (a.tmps.getD 9 undef)).toNat)

theorem gm01 (a a' : Act) (w w' : World) : grMeasure 0 a w < grMeasure 1 a' w' := by unfold grMeasure; simp; omega
theorem gm21 (a a' : Act) (w w' : World) : grMeasure 2 a w < grMeasure 1 a' w' := by unfold grMeasure; simp; omega
theorem gm02 (a a' : Act) (w w' : World) : grMeasure 0 a w < grMeasure 2 a' w' := by unfold grMeasure; simp
theorem gm11 {a a' : Act} {w w' : World} {i : Nat} (h1 : a.tmps.getD 9 undef = .int .u64 (7 * ((i + 1 : Nat) : Int))) (h2 : a'.tmps.getD 9 undef = .int .u64 (7 * (i : Int))) (hi : i ≤ 8) : grMeasure 1 a w < grMeasure 1 a' w' := by
  unfold grMeasure
  rw [h1, h2]
  simp [intOf]
  omega

set_option maxRecDepth 100000 in
set_option maxHeartbeats 1000000 in
theorem impl_groups (s : ByteArray) (at0 : Nat) (w : World) (hs : s.size ≤ 20000) (ha : (at0 : Int) ≤ 9223372036854775807) :
    Calls Tryd.prog 22 #[.string s, .int .i64 (at0 : Int)] w fun e w' => e = .returned (rdV at0 (rdL (s.data.toList.drop at0) 0 0)) ∧ w = w' := by
  go_enter Tryd.func22, Tryd.ntmps22
  go_wp2
  refine wp_scope_many (atLabel s at0 w) grMeasure ?_ ?_
  · by_cases hend : s.size ≤ at0
    · go_wp2
      go_step3
      go_wp2
      go_step3
      show atLabel s at0 w 0 _ _
      exact ⟨rfl, .inl ⟨rfl, 4, _, _, _, _, _, _, _, _, _, _, _, _, _, _, _, _, _, _, _, _, _, _, _, _, _, _, _, _, _, _, _, _, _, _, _, _, _, _, _, _, _, rfl, by omega, rdL_end s _ _ _ hend⟩⟩
    · have hlt : at0 < s.size := by omega
      have H256 := Lib.hid (show s[at0].toNat < 256 from s[at0].toNat_lt)
      by_cases hb : s[at0].toNat < 128
      · go_wp2
        go_step3
        go_wp2
        go_step3
        show atLabel s at0 w 2 _ _
        rw [or_shift0 H256.out, show (at0 : Int) + 1 = (at0 : Int) + ((0 : Nat) : Int) + 1 by omega]
        exact ⟨rfl, .inr (.inr ⟨rfl, 0, s[at0].toNat % 128, s[at0].toNat, _, _, _, _, _, _, _, _, _, _, _, _, _, _, _, _, _, _, _, _, _, _, _, _, _, _, _, _, _, _, _, _, _, _, _, _, _, rfl, by omega, by
          rw [rdL_last s _ _ _ hlt (by omega) hb]; simp⟩)⟩
      · go_wp2
        go_step3
        go_wp2
        go_step3
        show atLabel s at0 w 1 _ _
        rw [or_shift0 H256.out, show (at0 : Int) + 1 = (at0 : Int) + ((1 : Nat) : Int) by omega]
        exact ⟨rfl, .inr (.inl ⟨rfl, 1, s[at0].toNat % 128, _, _, _, _, _, _, _, _, _, _, _, _, _, _, _, _, _, _, _, _, _, _, _, _, _, _, _, _, _, _, _, _, _, _, _, _, _, _, rfl, by omega, by omega, by
          rw [rdL_more s _ _ _ hlt (by omega) hb]; simp⟩)⟩
  · rintro l a w' ⟨rfl, ⟨rfl, c, at_, u, b, sh, u11, u12, u13, u14, u15, u16, u17, u18, u19, u20, u21, u22, u23, u24, u25, u26, u27, u28, u29, u30, u31, u32, u33, u34, u35, u36, u37, u38, u39, u40, u41, u42, u43, u44, u45, u46, u47, rfl, hc, hr⟩ | ⟨rfl, i, u, b, u11, u12, u13, u14, u15, u16, u17, u18, u19, u20, u21, u22, u23, u24, u25, u26, u27, u28, u29, u30, u31, u32, u33, u34, u35, u36, u37, u38, u39, u40, u41, u42, u43, u44, u45, u46, u47, rfl, hi, hu, hr⟩ | ⟨rfl, i, u, b, u11, u12, u13, u14, u15, u16, u17, u18, u19, u20, u21, u22, u23, u24, u25, u26, u27, u28, u29, u30, u31, u32, u33, u34, u35, u36, u37, u38, u39, u40, u41, u42, u43, u44, u45, u46, u47, rfl, hi, hr⟩⟩
    · refine ⟨_, rfl, ?_⟩
      have HR := Lib.hid hr
      clear hr
      go_wp2
      go_ret3
      exact ⟨by rw [HR.out, rdV_bad hc]; rfl, rfl⟩
    · refine ⟨_, rfl, ?_⟩
      have HR := Lib.hid hr
      clear hr
      have HU := Lib.hid hu
      clear hu
      by_cases hend : s.size ≤ at0 + i
      · go_wp2
        go_step3
        show atLabel s at0 w 0 _ _ ∧ grMeasure 0 _ _ < grMeasure 1 _ _
        exact ⟨⟨rfl, .inl ⟨rfl, 4, _, _, _, _, _, _, _, _, _, _, _, _, _, _, _, _, _, _, _, _, _, _, _, _, _, _, _, _, _, _, _, _, _, _, _, _, _, _, _, _, _, rfl, by omega, by rw [HR.out]; exact rdL_end s _ _ _ hend⟩⟩, gm01 _ _ _ _⟩
      · have hlt : at0 + i < s.size := by omega
        have h256 : s[at0 + i].toNat < 256 := s[at0 + i].toNat_lt
        have H256 := Lib.hid h256
        clear h256
        by_cases h9 : i = 9
        · subst h9
          by_cases hb : 1 < s[at0 + 9].toNat
          · go_wp2
            go_step3
            show atLabel s at0 w 0 _ _ ∧ grMeasure 0 _ _ < grMeasure 1 _ _
            exact ⟨⟨rfl, .inl ⟨rfl, 3, _, _, _, _, _, _, _, _, _, _, _, _, _, _, _, _, _, _, _, _, _, _, _, _, _, _, _, _, _, _, _, _, _, _, _, _, _, _, _, _, _, rfl, by omega, by rw [HR.out]; exact rdL_bad s _ _ hlt hb⟩⟩, gm01 _ _ _ _⟩
          · go_wp2
            go_step3
            show atLabel s at0 w 2 _ _ ∧ grMeasure 2 _ _ < grMeasure 1 _ _
            have ho := or_shift9 H256.out HU.out (by omega)
            rw [ho]
            exact ⟨⟨rfl, .inr (.inr ⟨rfl, 9, _, _, _, _, _, _, _, _, _, _, _, _, _, _, _, _, _, _, _, _, _, _, _, _, _, _, _, _, _, _, _, _, _, _, _, _, _, _, _, rfl, by omega, by rw [HR.out]; exact rdL_last s _ _ _ hlt (by omega) (by omega)⟩)⟩, gm21 _ _ _ _⟩
        · by_cases hb : s[at0 + i].toNat < 128
          · go_wp2
            go_step3
            show atLabel s at0 w 2 _ _ ∧ grMeasure 2 _ _ < grMeasure 1 _ _
            have hp := pow_le (i := i) (by omega)
            have hm : s[at0 + i].toNat % 128 * 2 ^ (7 * i) ≤ 127 * 2 ^ (7 * i) := Nat.mul_le_mul_right _ (by omega)
            have ho := or_shift (i := i) H256.out HU.out (by omega) (by have := HU.out; omega)
            rw [ho]
            exact ⟨⟨rfl, .inr (.inr ⟨rfl, i, _, _, _, _, _, _, _, _, _, _, _, _, _, _, _, _, _, _, _, _, _, _, _, _, _, _, _, _, _, _, _, _, _, _, _, _, _, _, _, rfl, by omega, by rw [HR.out]; exact rdL_last s _ _ _ hlt (by omega) (by omega)⟩)⟩, gm21 _ _ _ _⟩
          · go_wp2
            go_step3
            show atLabel s at0 w 1 _ _ ∧ grMeasure 1 _ _ < grMeasure 1 _ _
            have hp := pow_le (i := i) (by omega)
            have hm : s[at0 + i].toNat % 128 * 2 ^ (7 * i) ≤ 127 * 2 ^ (7 * i) := Nat.mul_le_mul_right _ (by omega)
            have ho := or_shift (i := i) H256.out HU.out (by omega) (by have := HU.out; omega)
            rw [ho, show (at0 : Int) + (i : Int) + 1 = (at0 : Int) + ((i + 1 : Nat) : Int) by omega, show 7 * (i : Int) + 7 = 7 * ((i + 1 : Nat) : Int) by omega]
            exact ⟨⟨rfl, .inr (.inl ⟨rfl, i + 1, _, _, _, _, _, _, _, _, _, _, _, _, _, _, _, _, _, _, _, _, _, _, _, _, _, _, _, _, _, _, _, _, _, _, _, _, _, _, _, rfl, by omega, grow_lt HU.out, by rw [HR.out]; exact rdL_more s _ _ _ hlt (by omega) hb⟩)⟩, gm11 (i := i) rfl rfl (by omega)⟩
    · refine ⟨_, rfl, ?_⟩
      have HR := Lib.hid hr
      clear hr
      by_cases hb : b = 0 ∧ 0 < i
      · obtain ⟨rfl, hi0⟩ := hb
        go_wp2
        go_step3
        show atLabel s at0 w 0 _ _ ∧ grMeasure 0 _ _ < grMeasure 2 _ _
        exact ⟨⟨rfl, .inl ⟨rfl, 3, _, _, _, _, _, _, _, _, _, _, _, _, _, _, _, _, _, _, _, _, _, _, _, _, _, _, _, _, _, _, _, _, _, _, _, _, _, _, _, _, _, rfl, by omega, by rw [HR.out]; exact if_pos (by simpa using hi0)⟩⟩, gm02 _ _ _ _⟩
      · go_wp2
        all_goals
          go_ret3
          refine ⟨?_, rfl⟩
          rw [HR.out, if_neg (by omega), rdV_good, show (at0 : Int) + ((i + 1 : Nat) : Int) = (at0 : Int) + (i : Int) + 1 by omega]
          rfl

/-- The number whose zigzag is u. -/
def unzig (u : Nat) : Int := if u % 2 = 0 then (u / 2 : Nat) else -((u / 2 : Nat) : Int) - 1

theorem ofInt64 (a : Nat) (ha : a < 18446744073709551616) : (BitVec.ofInt 64 (a : Int)).toNat = a := by
  rw [BitVec.ofInt_natCast, BitVec.toNat_ofNat]; exact Nat.mod_eq_of_lt (by omega)
theorem wrap_i64 (n : Int) (h1 : -9223372036854775808 ≤ n) (h2 : n < 18446744073709551616) : IntKind.i64.wrap n = if n < 9223372036854775808 then n else n - 18446744073709551616 := by
  rw [IntKind.wrap_i64]
  split <;> omega
theorem xor64_zero (a : Nat) (h : a < 9223372036854775808) : bits .xor .i64 (a : Int) 0 = (a : Int) := by
  show IntKind.i64.wrap ((BitVec.ofInt 64 (a : Int) ^^^ BitVec.ofInt 64 0).toNat : Int) = _
  rw [show BitVec.ofInt 64 0 = 0#64 from rfl, BitVec.xor_zero, ofInt64 a (by omega), wrap_i64 _ (by omega) (by omega), if_pos (by omega)]
theorem xor64_ones (a : Nat) (h : a < 9223372036854775808) : bits .xor .i64 (a : Int) (-1) = -(a : Int) - 1 := by
  show IntKind.i64.wrap ((BitVec.ofInt 64 (a : Int) ^^^ BitVec.ofInt 64 (-1)).toNat : Int) = _
  rw [show BitVec.ofInt 64 (-1) = BitVec.allOnes 64 from rfl, BitVec.xor_allOnes, BitVec.toNat_not, ofInt64 a (by omega), wrap_i64 _ (by omega) (by omega), if_neg (by omega)]
  omega
theorem and64_one (u : Nat) (h : u < 18446744073709551616) : bits .and .u64 (u : Int) 1 = ((u % 2 : Nat) : Int) := by
  have := u64_and_nat u 1 h (by omega)
  rw [nat_mask1] at this
  exact this
theorem unzig_eq (u : Nat) (h : u < 18446744073709551616) : bits BinOp.xor IntKind.i64 ((u : Int) / 2) (wrap64 (-wrap64 (bits BinOp.and IntKind.u64 (u : Int) 1))) = unzig u := by
  have e : (u : Int) / 2 = ((u / 2 : Nat) : Int) := rfl
  unfold unzig
  rw [and64_one u h, e]
  by_cases h0 : u % 2 = 0
  · rw [if_pos h0, h0, show wrap64 (-wrap64 ((0 : Nat) : Int)) = 0 by unfold wrap64; decide]
    exact xor64_zero (u / 2) (by omega)
  · rw [if_neg h0, show u % 2 = 1 by omega, show wrap64 (-wrap64 ((1 : Nat) : Int)) = -1 by unfold wrap64; decide]
    exact xor64_ones (u / 2) (by omega)

set_option maxRecDepth 100000 in
theorem impl_unzigzag (u : Nat) (w : World) (hu : (u : Int) ≤ 18446744073709551615) :
    Calls Tryd.prog 24 #[.int .u64 (u : Int)] w fun e w' => e = .returned (.int .i64 (unzig u)) ∧ w = w' := by
  go_enter Tryd.func24, Tryd.ntmps24
  go_wp2
  go_ret
  exact ⟨ret_int (unzig_eq u (by omega)), rfl⟩
end Go.Proofs.YtnejnhfdinmicaaDoor
