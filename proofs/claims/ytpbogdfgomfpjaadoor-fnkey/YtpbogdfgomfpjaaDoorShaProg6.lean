/- What the program's Digest, Mac and Stretch answer. -/
import Derived.Test.YtpbogdfgomfpjaaDoorShaProg5
namespace Go.Proofs.YtpbogdfgomfpjaaDoor
open Go.RowKit

/-- The program's two tables lie in their variables. -/
def Tabs (w : World) : Prop := KeysAt w ∧ FirstAt w ∧ 8 ≤ w.heap.size
theorem Tabs.below {w w' : World} (h : Tabs w) (hb : Below w.heap.size w w') : Tabs w' := ⟨h.1.below hb h.2.2, h.2.1.below hb h.2.2, Nat.le_trans h.2.2 hb.size⟩
theorem Tabs.alloc {w : World} (h : Tabs w) (o : Obj) : Tabs (w.alloc o) := h.below ((Below.refl _ _).alloc (Nat.le_refl _) o)
/-- What Digest answers. -/
def digL (s : ByteArray) : List UInt8 := if 20000 < s.size then [] else shaL s
theorem digL_big {s : ByteArray} (h : 20000 < s.size) : digL s = [] := by unfold digL; rw [if_pos h]
theorem digL_small {s : ByteArray} (h : ¬ 20000 < s.size) : digL s = shaL s := by unfold digL; rw [if_neg h]
theorem flatB_one (a : ByteArray) : strOf (flatB [a]) = a := by
  unfold flatB
  simp [strOf]
theorem flatB_two (a b : ByteArray) : strOf (flatB [a, b]) = strOf (a.data.toList ++ b.data.toList) := by
  unfold flatB
  simp
theorem one_str (w : World) (a : ByteArray) (t : Nat) : ∀ j (h : j < [a].length), (w.alloc (.cells #[.string a] t)).cell? ⟨w.heap.size, j, none⟩ = some (.string [a][j]) := by
  intro j h
  rw [(Arr.fresh w t [.string a]).cell]
  match j, h with
  | 0, _ => rfl
theorem two_str (w : World) (a b : ByteArray) (t : Nat) : ∀ j (h : j < [a, b].length), (w.alloc (.cells #[.string a, .string b] t)).cell? ⟨w.heap.size, j, none⟩ = some (.string [a, b][j]) := by
  intro j h
  rw [(Arr.fresh w t [.string a, .string b]).cell]
  match j, h with
  | 0, _ => rfl
  | 1, _ => rfl
theorem size_toL (s : ByteArray) : s.data.toList.length = s.size := by rw [Array.length_toList]; rfl
theorem hashed_one (s : ByteArray) (w : World) (hT : Tabs w) (hs : s.size ≤ 900000) :
    Calls Tryd.prog 94 #[.slice (some ⟨w.heap.size, 0, none⟩) 1 1] (w.alloc (.cells #[.string s] 9)) fun e w' => e = .returned (.string (strOf (shaL s))) ∧ Below w.heap.size w w' := by
  have hT2 := hT.alloc (.cells #[.string s] 9)
  refine (impl_hashed w.heap.size 1 [s] (w.alloc (.cells #[.string s] 9)) (by simp) (one_str w s _) (by simp) (by unfold flatB; simp; exact hs) hT2.1 hT2.2.1 hT2.2.2).mono ?_
  rintro e w' ⟨rfl, hb⟩
  exact ⟨by rw [flatB_one], below_one hb⟩
theorem hashed_two (a b : ByteArray) (w : World) (hT : Tabs w) (hs : a.size + b.size ≤ 900000) :
    Calls Tryd.prog 94 #[.slice (some ⟨w.heap.size, 0, none⟩) 2 2] (w.alloc (.cells #[.string a, .string b] 9)) fun e w' => e = .returned (.string (strOf (shaL (strOf (a.data.toList ++ b.data.toList))))) ∧ Below w.heap.size w w' := by
  have hT2 := hT.alloc (.cells #[.string a, .string b] 9)
  refine (impl_hashed w.heap.size 2 [a, b] (w.alloc (.cells #[.string a, .string b] 9)) (by simp) (two_str w a b _) (by simp) (by unfold flatB; simp; exact hs) hT2.1 hT2.2.1 hT2.2.2).mono ?_
  rintro e w' ⟨rfl, hb⟩
  exact ⟨by rw [flatB_two], below_one hb⟩

set_option maxRecDepth 100000 in
theorem impl_digest (s : ByteArray) (w : World) (hT : Tabs w) (hs : s.size ≤ 9223372036854775807) :
    Calls Tryd.prog 73 #[.string s] w fun e w' => e = .returned (.string (strOf (digL s))) ∧ Below w.heap.size w w' := by
  have HT := Lib.hid hT
  clear hT
  by_cases h : 20000 < s.size
  · have HD := Lib.hid (digL_big h)
    go_enter Tryd.func73, Tryd.ntmps73
    go_wp2
    go_ret
    exact ⟨ret_str (by rw [HD.out]; rfl), Below.refl _ _⟩
  · have HD := Lib.hid (digL_small h)
    go_enter Tryd.func73, Tryd.ntmps73
    go_wp2_with (first
      | (go_at_call 94; refine (hashed_one s w HT.out (by omega)).mono ?_; rintro e w1 ⟨rfl, hb1⟩))
    go_ret
    exact ⟨ret_str (by rw [HD.out]), hb1⟩

/-- The key of a Mac. -/
def macKey (k : ByteArray) : ByteArray := if 64 < k.size then strOf (shaL k) else k
theorem macKey_big {k : ByteArray} (h : 64 < k.size) : macKey k = strOf (shaL k) := by unfold macKey; rw [if_pos h]
theorem macKey_small {k : ByteArray} (h : ¬ 64 < k.size) : macKey k = k := by unfold macKey; rw [if_neg h]
theorem macKey_size (k : ByteArray) : (macKey k).size ≤ 64 := by
  by_cases h : 64 < k.size
  · rw [macKey_big h, strOf_size, shaL_len]
    omega
  · rw [macKey_small h]
    omega
/-- A Mac of a key that is not too long. -/
def macRaw (k t : ByteArray) : List UInt8 := shaL (strOf (padK k.data.toList 92 ++ shaL (strOf (padK k.data.toList 54 ++ t.data.toList))))
def macIn (k t : ByteArray) : List UInt8 := macRaw (macKey k) t
def macL (k t : ByteArray) : List UInt8 := if 20000 < k.size ∨ 20000 < t.size then [] else macIn k t
theorem macL_big {k t : ByteArray} (h : 20000 < k.size ∨ 20000 < t.size) : macL k t = [] := by unfold macL; rw [if_pos h]
theorem macL_small {k t : ByteArray} (h : ¬ (20000 < k.size ∨ 20000 < t.size)) : macL k t = macIn k t := by unfold macL; rw [if_neg h]
theorem macRaw_len (k t : ByteArray) : (macRaw k t).length = 32 := shaL_len _
theorem toN54 : ((54 : UInt8).toNat : Int) = 54 := rfl
theorem toN92 : ((92 : UInt8).toNat : Int) = 92 := rfl

theorem padded54 (s : ByteArray) (hs : s.size ≤ 64) (w : World) :
    Calls Tryd.prog 95 #[.string s, .int .u8 54] w fun e w' => e = .returned (.string (strOf (padK s.data.toList 54))) ∧ Below w.heap.size w w' := impl_padded s 54 hs w
theorem padded92 (s : ByteArray) (hs : s.size ≤ 64) (w : World) :
    Calls Tryd.prog 95 #[.string s, .int .u8 92] w fun e w' => e = .returned (.string (strOf (padK s.data.toList 92))) ∧ Below w.heap.size w w' := impl_padded s 92 hs w

set_option maxRecDepth 100000 in
set_option maxHeartbeats 800000 in
theorem impl_mac (k t : ByteArray) (w : World) (hT : Tabs w) (hk : k.size ≤ 9223372036854775807) (ht : t.size ≤ 9223372036854775807) :
    Calls Tryd.prog 76 #[.string k, .string t] w fun e w' => e = .returned (.string (strOf (macL k t))) ∧ Below w.heap.size w w' := by
  have HT := Lib.hid hT
  clear hT
  by_cases h1 : 20000 < k.size
  · have HD := Lib.hid (macL_big (t := t) (.inl h1))
    go_enter Tryd.func76, Tryd.ntmps76
    go_wp2
    all_goals (go_ret; exact ⟨ret_str (by rw [HD.out]; rfl), Below.refl _ _⟩)
  · by_cases h2 : 20000 < t.size
    · have HD := Lib.hid (macL_big (k := k) (.inr h2))
      go_enter Tryd.func76, Tryd.ntmps76
      go_wp2
      all_goals (go_ret; exact ⟨ret_str (by rw [HD.out]; rfl), Below.refl _ _⟩)
    · have HD := Lib.hid (macL_small (k := k) (t := t) (by omega))
      have hd1 : decide (20000 < (k.size : Int)) = false := decide_eq_false (by omega)
      have hd2 : decide (20000 < (t.size : Int)) = false := decide_eq_false (by omega)
      by_cases h3 : 64 < k.size
      · have HMK := Lib.hid (macKey_big h3)
        have hsl : (strOf (shaL k)).size ≤ 64 := by rw [strOf_size, shaL_len]; omega
        have HSL := Lib.hid hsl
        clear hsl
        go_enter Tryd.func76, Tryd.ntmps76
        go_wp2_with fail
        refine (hashed_one k w HT.out (by omega)).mono ?_
        rintro e w0 ⟨rfl, hb0⟩
        have HB0 := Lib.hid hb0
        clear hb0
        obtain ⟨K, hK⟩ : ∃ K, K = strOf (shaL k) := ⟨_, rfl⟩
        rw [← hK] at HSL HMK ⊢
        clear hK
        go_wp2_with fail
        refine (padded92 K (by exact HSL.out) _).mono ?_
        rintro e w1 ⟨rfl, hb1⟩
        have HB1 := Lib.hid (HB0.out.trans (hb1.mono HB0.out.size))
        clear hb1
        go_wp2_with fail
        refine (padded54 K (by exact HSL.out) _).mono ?_
        rintro e w2 ⟨rfl, hb2⟩
        have HB2 := Lib.hid (HB1.out.trans (hb2.mono HB1.out.size))
        clear hb2
        go_wp2_with fail
        refine (hashed_two (strOf (padK K.data.toList 54)) t w2 (HT.out.below HB2.out) (by rw [strOf_size, padK_len (by rw [size_toL]; exact HSL.out)]; omega)).mono ?_
        rintro e w3 ⟨rfl, hb3⟩
        have HB3 := Lib.hid (HB2.out.trans (hb3.mono HB2.out.size))
        clear hb3
        rw [strOf_data]
        go_wp2_with fail
        refine (hashed_two (strOf (padK K.data.toList 92)) (strOf (shaL (strOf (padK K.data.toList 54 ++ t.data.toList)))) w3 (HT.out.below HB3.out) (by rw [strOf_size, strOf_size, shaL_len, padK_len (by rw [size_toL]; exact HSL.out)]; omega)).mono ?_
        rintro e w4 ⟨rfl, hb4⟩
        have HB4 := Lib.hid (HB3.out.trans (hb4.mono HB3.out.size))
        clear hb4
        rw [strOf_data, strOf_data]
        go_wp2
        go_ret
        exact ⟨ret_str (by rw [HD.out]; unfold macIn; rw [HMK.out]; rfl), HB4.out⟩
      · have HMK := Lib.hid (macKey_small h3)
        go_enter Tryd.func76, Tryd.ntmps76
        go_wp2_with fail
        refine (padded92 k (by omega) _).mono ?_
        rintro e w1 ⟨rfl, hb1⟩
        have HB1 := Lib.hid (hb1)
        clear hb1
        go_wp2_with fail
        refine (padded54 k (by omega) _).mono ?_
        rintro e w2 ⟨rfl, hb2⟩
        have HB2 := Lib.hid (HB1.out.trans (hb2.mono HB1.out.size))
        clear hb2
        go_wp2_with fail
        refine (hashed_two (strOf (padK k.data.toList 54)) t w2 (HT.out.below HB2.out) (by rw [strOf_size, padK_len (by rw [size_toL]; omega)]; omega)).mono ?_
        rintro e w3 ⟨rfl, hb3⟩
        have HB3 := Lib.hid (HB2.out.trans (hb3.mono HB2.out.size))
        clear hb3
        rw [strOf_data]
        go_wp2_with fail
        refine (hashed_two (strOf (padK k.data.toList 92)) (strOf (shaL (strOf (padK k.data.toList 54 ++ t.data.toList)))) w3 (HT.out.below HB3.out) (by rw [strOf_size, strOf_size, shaL_len, padK_len (by rw [size_toL]; omega)]; omega)).mono ?_
        rintro e w4 ⟨rfl, hb4⟩
        have HB4 := Lib.hid (HB3.out.trans (hb4.mono HB3.out.size))
        clear hb4
        rw [strOf_data, strOf_data]
        go_wp2
        go_ret
        exact ⟨ret_str (by rw [HD.out]; unfold macIn; rw [HMK.out]; rfl), HB4.out⟩

/-- What a pass is stretched to in so many rounds. -/
def stretchN (p : ByteArray) : Nat → ByteArray
  | 0 => ⟨#[115, 97, 108, 116]⟩
  | n + 1 => strOf (macIn p (stretchN p n))
theorem stretchN_size (p : ByteArray) (n : Nat) : (stretchN p n).size ≤ 32 := by
  cases n with
  | zero => show 4 ≤ 32; omega
  | succ n =>
    unfold stretchN macIn
    rw [strOf_size, macRaw_len]
    omega
def stretchS (p : ByteArray) (r : Int) : ByteArray := if 20000 < p.size ∨ r < 1 ∨ 100 < r then ⟨#[]⟩ else stretchN p r.toNat
theorem stretchS_out {p : ByteArray} {r : Int} (h : 20000 < p.size ∨ r < 1 ∨ 100 < r) : stretchS p r = ⟨#[]⟩ := by unfold stretchS; rw [if_pos h]
theorem stretchS_in {p : ByteArray} {n : Nat} (h : ¬ 20000 < p.size) (h1 : 1 ≤ n) (h2 : n ≤ 100) : stretchS p n = stretchN p n := by
  unfold stretchS
  rw [if_neg (by omega)]
  rfl
theorem impl_mac_in (k t : ByteArray) (w : World) (hT : Tabs w) (hk : ¬ 20000 < k.size) (ht : t.size ≤ 20000) :
    Calls Tryd.prog 76 #[.string k, .string t] w fun e w' => e = .returned (.string (strOf (macIn k t))) ∧ Below w.heap.size w w' := by
  rw [← macL_small (k := k) (t := t) (by omega)]
  exact impl_mac k t w hT (by omega) (by omega)

end Go.Proofs.YtpbogdfgomfpjaaDoor
