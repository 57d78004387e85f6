/- What the specification's Digest, Mac and Stretch answer. -/
import Derived.Test.YtpbogdfgomfpjaaDoorShaSpec3
import Derived.Test.YtpbogdfgomfpjaaDoorShaProg6
namespace Go.Proofs.YtpbogdfgomfpjaaDoor
open Go.RowKit

set_option maxRecDepth 100000 in
set_option maxHeartbeats 1000000 in
theorem spec_pad (s : ByteArray) (c : UInt8) (hs : s.size ≤ 64) (w : World) :
    Calls Tryd.prog 79 #[.string s, .int .u8 (c.toNat : Int)] w fun e w' => e = .returned (.string (strOf (padK s.data.toList c))) ∧ Below w.heap.size w w' := by
  obtain ⟨i0, hi, hz0, hz1, hz2⟩ := info_parts info_u8s
  have hlen : s.data.toList.length = s.size := by rw [Array.length_toList]; rfl
  obtain ⟨B, hB⟩ : ∃ B, B = s.data.toList ++ List.replicate (64 - s.data.toList.length) 0 := ⟨_, rfl⟩
  have hBl : B.length = 64 := by rw [hB]; simp; omega
  have HK := Lib.hid (show padK s.data.toList c = B.map (· ^^^ c) by rw [hB]; rfl)
  obtain ⟨A, hA⟩ : ∃ A, A = padK s.data.toList c := ⟨_, rfl⟩
  have hAl : A.length = 64 := by rw [hA]; exact padK_len (by omega) c
  rw [← hA] at HK ⊢
  have hcp := fun ty => copy_key (ty := ty) (heap_alloc_new w (.cells (madeCells #[.int .u8 0] 64) 5)) (made_list 64) hs
  rw [← hB] at hcp
  have HAl := Lib.hid hAl
  have HBl := Lib.hid hBl
  have hmk : ∀ u : World, (Instr.makeSlice 22 (.int .i64 64) (.int .i64 64)).run Tryd.prog u =
      .ok (.slice (some ⟨u.heap.size, 0, none⟩) 64 64) (u.alloc (.cells (madeCells #[.int .u8 0] 64) 5)) := fun u => by
    have h := run_make (P := Tryd.prog) u 22 5 i0 (.int .u8 0) Tryd.underlying22 hi hz0 .i64 .i64 64 64 (by omega) (Int.le_refl _) (by rw [hz2]; omega) (by omega)
    simpa [hz1, Value.cells] using h
  clear hA hB hAl hBl hlen
  have hc8 : (c.toNat : Int) ≤ 255 := by have := c.toNat_lt; omega
  go_enter Tryd.func79, Tryd.ntmps79
  go_wp2
  go_loopw [6] (fun i wr => ∃ k : Nat, i = .int .i64 (k : Int) ∧ k ≤ 64 ∧ Arr wr w.heap.size 5 (mixCells A B k) ∧ Below w.heap.size w wr) (fun i _ => 64 - (intOf i).toNat)
  case atStart => exact ⟨0, rfl, by omega, setRow_heap _ _ _ _ _ _ (heap_alloc_new w _), below_setRow ((Below.refl _ _).alloc (Nat.le_refl _) _) (Nat.le_refl _) _⟩
  case round =>
    clear hcp hmk
    obtain ⟨k, rfl, hk, hA, hbel⟩ := hrel
    by_cases hlt : k < 64
    · have hcl := (hA.cell k).trans (mixCells_at HAl.out HBl.out hlt)
      have hfz := hA.free k
      have HP : Hid (∀ z : Int, z = ((B.getD k 0 ^^^ c).toNat : Int) → (mixCells A B k).set k (.int .u8 z) = mixCells A B (k + 1)) := fun z hz => mixCells_put HAl.out HBl.out hlt (by
        rw [hz, HK.out, List.getD_eq_getElem?_getD, List.getD_eq_getElem?_getD, List.getElem?_map, List.getElem?_eq_getElem (by rw [HBl.out]; exact hlt)]
        rfl)
      obtain ⟨x, ex⟩ : ∃ x, x = B.getD k 0 := ⟨_, rfl⟩
      rw [← ex] at hcl HP
      have HX := Lib.hid (xor_u8 x c)
      have HA2 := Lib.hid hA
      clear ex hA
      have q1 : (k : Int) < 64 := by omega
      go_wp2
      go_roundw
      case rel => exact ⟨k + 1, by go_num, by omega, by rw [← HP.out _ HX.out]; exact HA2.out.put k _, hbel.setCell (Nat.le_refl _) _⟩
      case measure => simp [intOf]; omega
    · obtain rfl : k = 64 := by omega
      clear hlt
      rw [show ((64 : Nat) : Int) = 64 from rfl]
      rw [mixCells_all HAl.out HBl.out] at hA
      have hcv := run_string_arr (P := Tryd.prog) wr 22 9 5 _ _ 64 64 _ _ hA (heads_all A) HAl.out.symm Tryd.underlying22 Tryd.underlying5 Tryd.underlying9
      clear hA
      go_wp2
      go_ret
      exact ⟨rfl, hbel⟩

theorem pad54 (s : ByteArray) (hs : s.size ≤ 64) (w : World) :
    Calls Tryd.prog 79 #[.string s, .int .u8 54] w fun e w' => e = .returned (.string (strOf (padK s.data.toList 54))) ∧ Below w.heap.size w w' := spec_pad s 54 hs w
theorem pad92 (s : ByteArray) (hs : s.size ≤ 64) (w : World) :
    Calls Tryd.prog 79 #[.string s, .int .u8 92] w fun e w' => e = .returned (.string (strOf (padK s.data.toList 92))) ∧ Below w.heap.size w w' := spec_pad s 92 hs w
theorem add_str (a b : ByteArray) (h : a.size + b.size ≤ 1000000) (W : World) : (Op.stringOp .add a b).run Tryd.prog W = .ok (.string (strOf (a.data.toList ++ b.data.toList))) W := by
  have e : a ++ b = strOf (a.data.toList ++ b.data.toList) := by
    apply ByteArray.ext
    simp [strOf, ByteArray.data_append]
  rw [← e]
  exact run_string_add_sum (P := Tryd.prog) W a b (by omega)

set_option maxRecDepth 100000 in
set_option maxHeartbeats 800000 in
theorem spec_l02mac (k t : ByteArray) (w : World) (hk : k.size ≤ 20000) (ht : t.size ≤ 20000) :
    Calls Tryd.prog 47 #[.string k, .string t] w fun e w' => e = .returned (.string (strOf (macIn k t))) ∧ Below w.heap.size w w' := by
  by_cases h3 : 64 < k.size
  · have HMK := Lib.hid (macKey_big h3)
    have hsl : (strOf (shaL k)).size ≤ 64 := by rw [strOf_size, shaL_len]; omega
    have HSL := Lib.hid hsl
    clear hsl
    go_enter Tryd.func47, Tryd.ntmps47
    go_wp2_with fail
    refine (spec_all k w (by omega)).mono ?_
    rintro e w0 ⟨rfl, hb0⟩
    have HB0 := Lib.hid hb0
    clear hb0
    obtain ⟨K, hK⟩ : ∃ K, K = strOf (shaL k) := ⟨_, rfl⟩
    rw [← hK] at HSL HMK ⊢
    clear hK
    go_wp2_with fail
    refine (pad92 K (by exact HSL.out) _).mono ?_
    rintro e w1 ⟨rfl, hb1⟩
    have HB1 := Lib.hid (HB0.out.trans (hb1.mono HB0.out.size))
    clear hb1
    go_wp2_with fail
    refine (pad54 K (by exact HSL.out) _).mono ?_
    rintro e w2 ⟨rfl, hb2⟩
    have HB2 := Lib.hid (HB1.out.trans (hb2.mono HB1.out.size))
    clear hb2
    have ha1 := add_str (strOf (padK K.data.toList 54)) t (by rw [strOf_size, padK_len (by rw [size_toL]; exact HSL.out)]; omega)
    rw [strOf_data] at ha1
    go_wp2_with fail
    refine (spec_all (strOf (padK K.data.toList 54 ++ t.data.toList)) _ (by rw [strOf_size, List.length_append, padK_len (by rw [size_toL]; exact HSL.out), size_toL]; omega)).mono ?_
    rintro e w3 ⟨rfl, hb3⟩
    have HB3 := Lib.hid (HB2.out.trans (hb3.mono HB2.out.size))
    clear hb3 ha1
    have ha2 := add_str (strOf (padK K.data.toList 92)) (strOf (shaL (strOf (padK K.data.toList 54 ++ t.data.toList)))) (by rw [strOf_size, strOf_size, shaL_len, padK_len (by rw [size_toL]; exact HSL.out)]; omega)
    rw [strOf_data, strOf_data] at ha2
    go_wp2_with fail
    refine (spec_all (strOf (padK K.data.toList 92 ++ shaL (strOf (padK K.data.toList 54 ++ t.data.toList)))) _ (by rw [strOf_size, List.length_append, shaL_len, padK_len (by rw [size_toL]; exact HSL.out)]; omega)).mono ?_
    rintro e w4 ⟨rfl, hb4⟩
    have HB4 := Lib.hid (HB3.out.trans (hb4.mono HB3.out.size))
    clear hb4 ha2
    go_wp2
    go_ret
    exact ⟨ret_str (by unfold macIn; rw [HMK.out]; rfl), HB4.out⟩
  · have HMK := Lib.hid (macKey_small h3)
    go_enter Tryd.func47, Tryd.ntmps47
    go_wp2_with fail
    refine (pad92 k (by omega) _).mono ?_
    rintro e w1 ⟨rfl, hb1⟩
    have HB1 := Lib.hid (hb1)
    clear hb1
    go_wp2_with fail
    refine (pad54 k (by omega) _).mono ?_
    rintro e w2 ⟨rfl, hb2⟩
    have HB2 := Lib.hid (HB1.out.trans (hb2.mono HB1.out.size))
    clear hb2
    have ha1 := add_str (strOf (padK k.data.toList 54)) t (by rw [strOf_size, padK_len (by rw [size_toL]; omega)]; omega)
    rw [strOf_data] at ha1
    go_wp2_with fail
    refine (spec_all (strOf (padK k.data.toList 54 ++ t.data.toList)) _ (by rw [strOf_size, List.length_append, padK_len (by rw [size_toL]; omega), size_toL]; omega)).mono ?_
    rintro e w3 ⟨rfl, hb3⟩
    have HB3 := Lib.hid (HB2.out.trans (hb3.mono HB2.out.size))
    clear hb3 ha1
    have ha2 := add_str (strOf (padK k.data.toList 92)) (strOf (shaL (strOf (padK k.data.toList 54 ++ t.data.toList)))) (by rw [strOf_size, strOf_size, shaL_len, padK_len (by rw [size_toL]; omega)]; omega)
    rw [strOf_data, strOf_data] at ha2
    go_wp2_with fail
    refine (spec_all (strOf (padK k.data.toList 92 ++ shaL (strOf (padK k.data.toList 54 ++ t.data.toList)))) _ (by rw [strOf_size, List.length_append, shaL_len, padK_len (by rw [size_toL]; omega)]; omega)).mono ?_
    rintro e w4 ⟨rfl, hb4⟩
    have HB4 := Lib.hid (HB3.out.trans (hb4.mono HB3.out.size))
    clear hb4 ha2
    go_wp2
    go_ret
    exact ⟨ret_str (by unfold macIn; rw [HMK.out]; rfl), HB4.out⟩

end Go.Proofs.YtpbogdfgomfpjaaDoor
