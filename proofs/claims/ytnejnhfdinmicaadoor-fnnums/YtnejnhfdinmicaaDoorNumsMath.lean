/- What is written is read back: numbers and strings; with the last byte left off there is too little. -/
import Derived.Test.YtnejnhfdinmicaaDoorTextWalks
import Derived.Test.YtnejnhfdinmicaaDoorGetTextWalks
namespace Go.Proofs.YtnejnhfdinmicaaDoor
open Go.RowKit

theorem unzig_zig (n : Int) : unzig (zig n) = n := by
  unfold unzig zig
  split <;> split <;> omega
theorem byte_toNat {n : Nat} (h : n < 256) : (UInt8.ofNat n).toNat = n := by simp; omega
theorem pow_split {i : Nat} (h : i ≤ 8) : 2 ^ (64 - 7 * i) = 128 * 2 ^ (64 - 7 * (i + 1)) := by
  rw [show 64 - 7 * i = 7 + (64 - 7 * (i + 1)) by omega, Nat.pow_add]
theorem vint_next {i m : Nat} (hi : i ≤ 9) (hm : m < 2 ^ (64 - 7 * i)) (hs : ¬ m < 128) : i ≤ 8 ∧ m / 128 < 2 ^ (64 - 7 * (i + 1)) := by
  have h8 : i ≤ 8 := by
    rcases Nat.lt_or_ge i 9 with h | h
    · omega
    · have : i = 9 := by omega
      subst this
      simp at hm
      omega
  refine ⟨h8, ?_⟩
  rw [pow_split h8] at hm
  exact Nat.div_lt_of_lt_mul hm
theorem rd_vint (rest : List UInt8) : ∀ (k m i u : Nat), m ≤ k → i ≤ 9 → m < 2 ^ (64 - 7 * i) → ¬ (m = 0 ∧ 0 < i) → rdL (vint m ++ rest) i u = (0, u + m * 2 ^ (7 * i), i + (vint m).length) := by
  intro k
  induction k with
  | zero =>
    intro m i u hk hi hm h0
    obtain rfl : m = 0 := by omega
    rw [vint_small (by omega)]
    have : i = 0 := by omega
    subst this
    simp [rdL]
  | succ k ih =>
    intro m i u hk hi hm h0
    by_cases hs : m < 128
    · rw [vint_small hs, List.singleton_append, rdL, byte_toNat (by omega), if_neg, if_pos hs, if_neg h0, Nat.mod_eq_of_lt hs]
      · rfl
      · rintro ⟨rfl, h⟩
        simp at hm
        omega
    · obtain ⟨h8, hn⟩ := vint_next hi hm hs
      rw [vint_big (by omega), List.cons_append, rdL, byte_toNat (by omega), if_neg (by omega), if_neg (by omega), ih (m / 128) (i + 1) _ (by omega) (by omega) hn (by omega)]
      rw [List.length_cons]
      have e : u + (m % 128 + 128) % 128 * 2 ^ (7 * i) + m / 128 * 2 ^ (7 * (i + 1)) = u + m * 2 ^ (7 * i) := by
        rw [show 7 * (i + 1) = 7 + 7 * i by omega, Nat.pow_add, ← Nat.mul_assoc, Nat.add_assoc, ← Nat.add_mul]
        congr 2
        omega
      rw [e]
      congr 2
      omega
theorem rd_short : ∀ (k m i u : Nat), m ≤ k → i ≤ 9 → m < 2 ^ (64 - 7 * i) → rdL (vint m).dropLast i u = (4, 0, 0) := by
  intro k
  induction k with
  | zero =>
    intro m i u hk hi hm
    rw [vint_small (by omega)]
    rfl
  | succ k ih =>
    intro m i u hk hi hm
    by_cases hs : m < 128
    · rw [vint_small hs]
      rfl
    · obtain ⟨h8, hn⟩ := vint_next hi hm hs
      have hne : vint (m / 128) ≠ [] := by
        have := vint_pos (m / 128)
        intro e
        simp [e] at this
      rw [vint_big (by omega), List.dropLast_cons_of_ne_nil hne, rdL, byte_toNat (by omega), if_neg (by omega), if_neg (by omega)]
      exact ih (m / 128) (i + 1) _ (by omega) (by omega) hn

theorem rd_put {n : Int} (h1 : -9223372036854775808 ≤ n) (h2 : n ≤ 9223372036854775807) (rest : List UInt8) : rdL (putL n ++ rest) 0 0 = (0, zig n, (putL n).length) := by
  have := rd_vint rest (zig n) (zig n) 0 0 (Nat.le_refl _) (by omega) (zig_lt h1 h2) (by omega)
  simpa [putL] using this
/-- GetNum of what PutNum wrote, behind one string and ahead of another. -/
theorem getNum_put {n : Int} (h1 : -9223372036854775808 ≤ n) (h2 : n ≤ 9223372036854775807) {s : ByteArray} {at_ : Nat} (hs : s.size ≤ 20000) (rest : List UInt8) (hd : s.data.toList.drop at_ = putL n ++ rest) :
    getNumV s (at_ : Int) = numOut n ((at_ : Int) + ((putL n).length : Int)) 0 := by
  unfold getNumV
  rw [if_neg (by omega), if_neg (by omega), Int.toNat_natCast, hd, rd_put h1 h2, getNumIn_good, unzig_zig]
theorem getNum_short {n : Int} (h1 : -9223372036854775808 ≤ n) (h2 : n ≤ 9223372036854775807) {s : ByteArray} (hd : s.data.toList = (putL n).dropLast) : getNumV s 0 = numOut 0 0 4 := by
  unfold getNumV
  have hl : s.size ≤ 10 := by
    have := putL_len h1 h2
    rw [← size_data s, hd, List.length_dropLast]
    omega
  rw [if_neg (by omega), if_neg (by omega), show (0 : Int).toNat = 0 from rfl, List.drop_zero, hd, putL, rd_short (zig n) (zig n) 0 0 (Nat.le_refl _) (by omega) (zig_lt h1 h2)]
  rfl

theorem data_inj {a b : ByteArray} (h : a.data.toList = b.data.toList) : a = b := WideShapes.bytes_inj h
theorem extract_list (s : ByteArray) (a b : Nat) : (s.extract a b).data.toList = (s.data.toList.take b).drop a := by simp [List.drop_take]
theorem put_pos (n : Int) : 1 ≤ (putL n).length := vint_pos _
theorem init_data {L : ByteArray} {l : List UInt8} (hL : L = strOf l) : (L.extract 0 (L.size - 1)).data.toList = l.dropLast := by
  rw [extract_list, List.drop_zero, hL, strOf_data, strOf_size, List.dropLast_eq_take]
/-- A number written, between two strings and with its last byte left off. -/
theorem num_back {n : Int} (h1 : -9223372036854775808 ≤ n) (h2 : n ≤ 9223372036854775807) {L : ByteArray} (hL : L = strOf (putL n)) (x y z : UInt8) :
    getNumV (⟨#[x, y]⟩ ++ L ++ ⟨#[z]⟩) 2 = numOut n ((L.size : Int) + 2) 0 := by
  have hs : L.size = (putL n).length := by rw [hL, strOf_size]
  have hl := putL_len h1 h2
  have := getNum_put h1 h2 (s := ⟨#[x, y]⟩ ++ L ++ ⟨#[z]⟩) (at_ := 2) (by rw [ByteArray.size_append, ByteArray.size_append, hs, show (ByteArray.mk #[x, y]).size = 2 from rfl, show (ByteArray.mk #[z]).size = 1 from rfl]; omega) [z] (by
    rw [hL]
    simp [ByteArray.data_append, strOf])
  rw [hs, Int.add_comm]
  exact this
theorem num_init {n : Int} (h1 : -9223372036854775808 ≤ n) (h2 : n ≤ 9223372036854775807) {L : ByteArray} (hL : L = strOf (putL n)) : getNumV (L.extract 0 (L.size - 1)) 0 = numOut 0 0 4 :=
  getNum_short h1 h2 (init_data hL)
theorem text_len {u P : ByteArray} (h : ¬ 20000 < u.size) (hP : P = strOf (putTextL u)) : P.size = (putL u.size).length + u.size := by
  rw [hP, strOf_size, putTextL_small h, List.length_append, size_data]
/-- A string written is read back behind a byte. -/
theorem text_back {u P : ByteArray} (h : ¬ 20000 < u.size) (hP : P = strOf (putTextL u)) (hs : P.size + 1 ≤ 20000) (x : UInt8) :
    ∃ n a c, getNumV (⟨#[x]⟩ ++ P) 1 = numOut n a c ∧ getTextV (⟨#[x]⟩ ++ P) n a c = textOut u ((P.size : Int) + 1) 0 := by
  have hl := text_len h hP
  have hz : (ByteArray.mk #[x] ++ P).size = P.size + 1 := by rw [ByteArray.size_append, show (ByteArray.mk #[x]).size = 1 from rfl]; omega
  have hd : (ByteArray.mk #[x] ++ P).data.toList = x :: (putL u.size ++ u.data.toList) := by
    rw [hP, putTextL_small h]
    simp [ByteArray.data_append, strOf]
  refine ⟨_, _, _, getNum_put (n := (u.size : Int)) (by omega) (by omega) (at_ := 1) (by omega) u.data.toList (by rw [hd]; rfl), ?_⟩
  unfold getTextV
  rw [if_neg (by omega), if_neg (by omega), if_neg (by rw [hz]; omega)]
  have e1 : (((1 : Nat) : Int) + ((putL (u.size : Int)).length : Int)).toNat = 1 + (putL (u.size : Int)).length := by omega
  have e2 : (((1 : Nat) : Int) + ((putL (u.size : Int)).length : Int) + (u.size : Int)).toNat = 1 + (putL (u.size : Int)).length + u.size := by omega
  have e3 : ((1 : Nat) : Int) + ((putL (u.size : Int)).length : Int) + (u.size : Int) = (P.size : Int) + 1 := by omega
  have e4 : (ByteArray.mk #[x] ++ P).extract (1 + (putL (u.size : Int)).length) (1 + (putL (u.size : Int)).length + u.size) = u := by
    apply data_inj
    rw [extract_list, hd, List.take_of_length_le (by rw [List.length_cons, List.length_append, size_data]; omega), Nat.add_comm 1, List.drop_succ_cons, List.drop_left]
  rw [e1, e2, e3, e4]
/-- A string written, with its last byte left off. -/
theorem text_init {u P : ByteArray} (h : ¬ 20000 < u.size) (hP : P = strOf (putTextL u)) (hs : P.size + 1 ≤ 20000) :
    ∃ n a c, getNumV (P.extract 0 (P.size - 1)) 0 = numOut n a c ∧ getTextV (P.extract 0 (P.size - 1)) n a c = textOut ⟨#[]⟩ 0 4 := by
  have hl := text_len h hP
  have hi := init_data hP
  rw [putTextL_small h] at hi
  by_cases h0 : u.size = 0
  · have he : u.data.toList = [] := List.eq_nil_of_length_eq_zero (by rw [size_data]; exact h0)
    rw [he, List.append_nil] at hi
    refine ⟨_, _, _, getNum_short (n := (u.size : Int)) (by omega) (by omega) hi, ?_⟩
    unfold getTextV
    rw [if_pos (by omega)]
  · have hne : u.data.toList ≠ [] := fun e => h0 (by rw [← size_data u, e]; rfl)
    rw [List.dropLast_append_of_ne_nil hne] at hi
    have hz : (P.extract 0 (P.size - 1)).size = P.size - 1 := by rw [ByteArray.size_extract]; omega
    have hp := put_pos (u.size : Int)
    refine ⟨_, _, _, getNum_put (n := (u.size : Int)) (by omega) (by omega) (at_ := 0) (by omega) u.data.toList.dropLast (by rw [hi]; rfl), ?_⟩
    unfold getTextV
    rw [if_neg (by omega), if_neg (by omega), if_pos (by rw [hz]; omega)]
end Go.Proofs.YtnejnhfdinmicaaDoor
