/- What Seal and Unseal answer at every string, in the program and in the specification. -/
import Derived.Test.YtnejnhfdinmicaaCrcWalks
import Derived.Test.YtnejnhfdinmicaaTextWalks
import Derived.Deep.QuietTactic
import Derived.BigQuiet
namespace Go.Proofs.Ytnejnhfdinmicaa
open Go.RowKit

/-- The four bytes of a number, the least first. -/
def fourL (n : Nat) : List UInt8 := [UInt8.ofNat (n % 256), UInt8.ofNat (n / 256 % 256), UInt8.ofNat (n / 65536 % 256), UInt8.ofNat (n / 16777216 % 256)]

/-- string([]byte{..}): the cells of a new block are the bytes l. -/
theorem run_string_lit {P : Program} (w : World) (src dst e cap n : Nat) (cs : List Value) (l : List UInt8) (h : cs = l.map byteV) (hn : n = l.length)
    (hs : P.underlying src = some (.slice e)) (he : P.underlying e = some (.int .u8)) (hd : P.underlying dst = some .string) :
    (convert src dst (.slice (some ⟨w.heap.size, 0, none⟩) n cap)).run P (w.alloc (.cells cs.toArray e)) = .ok (.string (strOf l)) (w.alloc (.cells cs.toArray e)) :=
  run_string_arr (P := P) _ src dst e w.heap.size e cap n cs l (Arr.fresh w e cs) (by unfold Heads; rw [h]; exact List.take_of_length_le (by simp)) hn hs he hd
theorem four_cells (n : Nat) (hn : (n : Int) ≤ 4294967295) : [Value.int .u8 ((n : Int) % 256), .int .u8 ((n : Int) / 256 % 256), .int .u8 ((n : Int) / 65536 % 256), .int .u8 ((n : Int) / 16777216)] = (fourL n).map byteV := by
  unfold fourL
  simp only [List.map_cons, List.map_nil]
  rw [← byteV_ofNat (n := n % 256) (z := (n : Int) % 256) (by omega) (by omega), ← byteV_ofNat (n := n / 256 % 256) (z := (n : Int) / 256 % 256) (by omega) (by omega),
    ← byteV_ofNat (n := n / 65536 % 256) (z := (n : Int) / 65536 % 256) (by omega) (by omega), ← byteV_ofNat (n := n / 16777216 % 256) (z := (n : Int) / 16777216) (by omega) (by omega)]

set_option maxRecDepth 100000 in
theorem spec_four (n : Nat) (w : World) (hn : (n : Int) ≤ 4294967295) :
    Calls Try.prog 35 #[.int .i64 (n : Int)] w fun e w' => e = .returned (.string (strOf (fourL n))) ∧ Below w.heap.size w w' := by
  have hcv := run_string_lit (P := Try.prog) w 22 9 5 4 4 _ _ (four_cells n hn) rfl Try.underlying22 Try.underlying5 Try.underlying9
  go_enter Try.func35, Try.ntmps35
  go_wp2
  go_ret
  exact ⟨rfl, (Below.refl _ _).alloc (Nat.le_refl _) _⟩

/-- The four bytes of a string's CRC. -/
def crcL (s : ByteArray) : List UInt8 := fourL (crcOf 0 s.data.toList)
theorem crc_le (s : ByteArray) : ((crcOf 0 s.data.toList : Nat) : Int) ≤ 4294967295 := by have := crcOf_lt (c := 0) (by omega) s.data.toList; omega
theorem crcL_len (s : ByteArray) : (crcL s).length = 4 := rfl

set_option maxRecDepth 100000 in
theorem impl_crctext (s : ByteArray) (w : World) (hs : s.size ≤ 20000) :
    Calls Try.prog 34 #[.string s] w fun e w' => e = .returned (.string (strOf (crcL s))) ∧ Below w.heap.size w w' := by
  have HI := Lib.hid (crcMoreZ_in (c := 0) (s := s) (by omega) hs)
  have hq := crc_le s
  have HC := Lib.hid (show crcL s = fourL (crcOf 0 s.data.toList) from rfl)
  obtain ⟨q, hqq⟩ : ∃ q, q = crcOf 0 s.data.toList := ⟨_, rfl⟩
  rw [← hqq] at hq
  have HQ := Lib.hid hqq
  clear hqq
  have hcv := run_string_lit (P := Try.prog) w 22 9 5 4 4 _ _ (four_cells q hq) rfl Try.underlying22 Try.underlying5 Try.underlying9
  go_enter Try.func34, Try.ntmps34
  go_wp2_with (first
    | (go_at_call 19; refine (impl_crc s _ (by omega)).mono ?_; rintro e w' ⟨rfl, rfl⟩; have e0 : crcMoreZ 0 s = (q : Int) := by { rw [HQ.out]; exact HI.out }; rw [e0]; clear e0))
  go_ret
  exact ⟨ret_str (by rw [HC.out, HQ.out]), (Below.refl _ _).alloc (Nat.le_refl _) _⟩

/-- What Seal answers. -/
def sealL (s : ByteArray) : List UInt8 := if 19996 < s.size then [] else s.data.toList ++ crcL s
theorem sealL_big {s : ByteArray} (h : 19996 < s.size) : sealL s = [] := by unfold sealL; rw [if_pos h]
theorem sealL_small {s : ByteArray} (h : ¬ 19996 < s.size) : sealL s = s.data.toList ++ crcL s := by unfold sealL; rw [if_neg h]

set_option maxRecDepth 100000 in
theorem spec_seal (s : ByteArray) (w : World) (hs : s.size ≤ 9223372036854775807) :
    Calls Try.prog 13 #[.string s] w fun e w' => e = .returned (.string (strOf (sealL s))) ∧ Below w.heap.size w w' := by
  by_cases h : 19996 < s.size
  · have HP := Lib.hid (sealL_big h)
    go_enter Try.func13, Try.ntmps13
    go_wp2
    go_ret
    exact ⟨ret_str (by rw [HP.out]; rfl), Below.refl _ _⟩
  · have HP := Lib.hid (sealL_small h)
    have hadd := fun W => run_string_add_sum (P := Try.prog) W s (strOf (crcL s)) (by rw [strOf_size, crcL_len]; omega)
    go_enter Try.func13, Try.ntmps13
    go_wp2_with (first
      | (go_at_call 36; refine (spec_l01crc 0 s _ (by omega) hs).mono ?_; rintro e w' ⟨rfl, rfl⟩)
      | (go_at_call 35; refine (spec_four _ _ (crc_le s)).mono ?_; rintro e w1 ⟨rfl, hb1⟩; rw [show fourL (crcOf 0 s.data.toList) = crcL s from rfl]))
    go_ret
    exact ⟨ret_str (by rw [HP.out, strOf_append, strOf_toList]), hb1⟩

set_option maxRecDepth 100000 in
theorem impl_seal (s : ByteArray) (w : World) (hs : s.size ≤ 9223372036854775807) :
    Calls Try.prog 12 #[.string s] w fun e w' => e = .returned (.string (strOf (sealL s))) ∧ Below w.heap.size w w' := by
  by_cases h : 19996 < s.size
  · have HP := Lib.hid (sealL_big h)
    go_enter Try.func12, Try.ntmps12
    go_wp2
    go_ret
    exact ⟨ret_str (by rw [HP.out]; rfl), Below.refl _ _⟩
  · have HP := Lib.hid (sealL_small h)
    go_enter Try.func12, Try.ntmps12
    go_wp2_with (first
      | (go_at_call 34; refine (impl_crctext s _ (by omega)).mono ?_; rintro e w1 ⟨rfl, hb1⟩))
    refine (impl_joined w1.heap.size 2 [s, strOf (crcL s)] (w1.alloc (.cells #[.string s, .string (strOf (crcL s))] 9)) (by simp) (two_cells w1 _ _ _) (by simp) (by rw [flat_two, List.length_append, strOf_data, size_data, crcL_len]; omega)).mono ?_
    rintro e w2 ⟨rfl, hb2⟩
    go_wp2
    go_ret
    exact ⟨ret_str (by rw [HP.out, flat_two, strOf_data]), (hb1.alloc hb1.size _).trans (hb2.mono (by have := hb1.size; simp; omega))⟩
end Go.Proofs.Ytnejnhfdinmicaa
