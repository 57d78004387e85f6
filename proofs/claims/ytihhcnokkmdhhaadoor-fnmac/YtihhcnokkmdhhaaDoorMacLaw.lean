/- The law of digests, walked: whatever is drawn, it answers true. -/
import Derived.Test.YtihhcnokkmdhhaaDoorShaSpec4
import Derived.Test.YtihhcnokkmdhhaaDoorMacDraws
namespace Go.Proofs.YtihhcnokkmdhhaaDoor
open Go.RowKit

set_option maxRecDepth 100000 in
set_option maxHeartbeats 1000000 in
theorem lw_pad (s : ByteArray) (c : UInt8) (hs : s.size ≤ 64) (w : World) :
    Calls Tryd.prog 9 #[.string s, .int .u8 (c.toNat : Int)] w fun e w' => e = .returned (.string (strOf (padK s.data.toList c))) ∧ Below w.heap.size w w' := by
  obtain ⟨i0, hi, hz0, hz1, hz2⟩ := info_parts info_u8s
  have hlen : s.data.toList.length = s.size := by rw [Array.length_toList]; rfl
  obtain ⟨B, hB⟩ : ∃ B, B = s.data.toList ++ List.replicate (64 - s.data.toList.length) 0 := ⟨_, rfl⟩
  have hBl : B.length = 64 := by rw [hB]; simp; omega
  have HK := Lib.hid (show padK s.data.toList c = B.map (· ^^^ c) by rw [hB]; rfl)
  obtain ⟨A, hA⟩ : ∃ A, A = padK s.data.toList c := ⟨_, rfl⟩
  have hAl : A.length = 64 := by rw [hA]; exact padK_len (by omega) c
  rw [← hA] at HK ⊢
  have hcp := fun ty => copy_key (ty := ty) (heap_alloc_new w (.cells (madeCells #[.int .u8 0] 64) 5)) (made_list 64) hs
  rw [← hB] at hcp
  have HAl := Lib.hid hAl
  have HBl := Lib.hid hBl
  have hmk : ∀ u : World, (Instr.makeSlice 22 (.int .i64 64) (.int .i64 64)).run Tryd.prog u =
      .ok (.slice (some ⟨u.heap.size, 0, none⟩) 64 64) (u.alloc (.cells (madeCells #[.int .u8 0] 64) 5)) := fun u => by
    have h := run_make (P := Tryd.prog) u 22 5 i0 (.int .u8 0) Tryd.underlying22 hi hz0 .i64 .i64 64 64 (by omega) (Int.le_refl _) (by rw [hz2]; omega) (by omega)
    simpa [hz1, Value.cells] using h
  clear hA hB hAl hBl hlen
  have hc8 : (c.toNat : Int) ≤ 255 := by have := c.toNat_lt; omega
  go_enter Tryd.func9, Tryd.ntmps9
  go_wp2
  go_loopw [6] (fun i wr => ∃ k : Nat, i = .int .i64 (k : Int) ∧ k ≤ 64 ∧ Arr wr w.heap.size 5 (mixCells A B k) ∧ Below w.heap.size w wr) (fun i _ => 64 - (intOf i).toNat)
  case atStart => exact ⟨0, rfl, by omega, setRow_heap _ _ _ _ _ _ (heap_alloc_new w _), below_setRow ((Below.refl _ _).alloc (Nat.le_refl _) _) (Nat.le_refl _) _⟩
  case round =>
    clear hcp hmk
    obtain ⟨k, rfl, hk, hA, hbel⟩ := hrel
    by_cases hlt : k < 64
    · have hcl := (hA.cell k).trans (mixCells_at HAl.out HBl.out hlt)
      have hfz := hA.free k
      have HP : Hid (∀ z : Int, z = ((B.getD k 0 ^^^ c).toNat : Int) → (mixCells A B k).set k (.int .u8 z) = mixCells A B (k + 1)) := fun z hz => mixCells_put HAl.out HBl.out hlt (by
        rw [hz, HK.out, List.getD_eq_getElem?_getD, List.getD_eq_getElem?_getD, List.getElem?_map, List.getElem?_eq_getElem (by rw [HBl.out]; exact hlt)]
        rfl)
      obtain ⟨x, ex⟩ : ∃ x, x = B.getD k 0 := ⟨_, rfl⟩
      rw [← ex] at hcl HP
      have HX := Lib.hid (xor_u8 x c)
      have HA2 := Lib.hid hA
      clear ex hA
      have q1 : (k : Int) < 64 := by omega
      go_wp2
      go_roundw
      case rel => exact ⟨k + 1, by go_num, by omega, by rw [← HP.out _ HX.out]; exact HA2.out.put k _, hbel.setCell (Nat.le_refl _) _⟩
      case measure => simp [intOf]; omega
    · obtain rfl : k = 64 := by omega
      clear hlt
      rw [show ((64 : Nat) : Int) = 64 from rfl]
      rw [mixCells_all HAl.out HBl.out] at hA
      have hcv := run_string_arr (P := Tryd.prog) wr 22 9 5 _ _ 64 64 _ _ hA (heads_all A) HAl.out.symm Tryd.underlying22 Tryd.underlying5 Tryd.underlying9
      clear hA
      go_wp2
      go_ret
      exact ⟨rfl, hbel⟩

theorem lw54 (s : ByteArray) (hs : s.size ≤ 64) (w : World) :
    Calls Tryd.prog 9 #[.string s, .int .u8 54] w fun e w' => e = .returned (.string (strOf (padK s.data.toList 54))) ∧ Below w.heap.size w w' := lw_pad s 54 hs w
theorem lw92 (s : ByteArray) (hs : s.size ≤ 64) (w : World) :
    Calls Tryd.prog 9 #[.string s, .int .u8 92] w fun e w' => e = .returned (.string (strOf (padK s.data.toList 92))) ∧ Below w.heap.size w w' := lw_pad s 92 hs w
theorem digest_in (s : ByteArray) (w : World) (hT : Tabs w) (hs : s.size ≤ 20000) :
    Calls Tryd.prog 8 #[.string s] w fun e w' => e = .returned (.string (strOf (shaL s))) ∧ Below w.heap.size w w' := by
  rw [← digL_small (s := s) (by omega)]
  exact impl_digest s w hT (by omega)
theorem stretch_next {p : ByteArray} {m : Nat} (hp : p.size ≤ 8) (h1 : 1 ≤ m) (h2 : m ≤ 99) : stretchS p ((m : Int) + 1) = strOf (macL p (stretchS p (m : Int))) := by
  have hs := stretchN_size p m
  rw [show (m : Int) + 1 = ((m + 1 : Nat) : Int) by omega, stretchS_in (by omega) (by omega) (by omega), stretchS_in (by omega) h1 (by omega), macL_small (by omega)]
  rfl
theorem stretchS_size (p : ByteArray) (n : Int) : (stretchS p n).size ≤ 32 := by
  unfold stretchS
  split
  · show 0 ≤ 32
    omega
  · exact stretchN_size p _

set_option maxRecDepth 100000 in
set_option maxHeartbeats 4000000 in
theorem mac_law (a0 : Option Addr) (len0 cap0 : Nat) (a1 : Option Addr) (len1 cap1 : Nat) (w : World) (h0 : len0 ≤ 1048576) (h1 : len1 ≤ 1048576) (r0 : SrcRow w w.heap.size a0 len0) (r1 : SrcRow w w.heap.size a1 len1) (hT : Tabs w) :
    Calls Tryd.prog 3 #[.slice a0 len0 cap0, .slice a1 len1 cap1] w fun e w' => e = .returned (.bool true) ∧ Below w.heap.size w w' := by
  have R0 := Lib.hid r0
  have R1 := Lib.hid r1
  have HT := Lib.hid hT
  clear r0 r1 hT
  go_enter Tryd.func3, Tryd.ntmps3
  go_wp2_with fail
  refine (draw_mac a0 len0 cap0 _ h0 R0.out).mono ?_
  rintro e w1 ⟨⟨_, rfl, ⟨k, t, rfl, hk, ht⟩⟩, hb1⟩
  have HB1 := Lib.hid hb1
  clear hb1
  by_cases hk64 : k.size ≤ 64
  · have hpl : (padK k.data.toList 54).length = 64 := padK_len (by rw [size_toL]; exact hk64) 54
    have hpl2 : (padK k.data.toList 92).length = 64 := padK_len (by rw [size_toL]; exact hk64) 92
    have HPL := Lib.hid hpl
    have HPL2 := Lib.hid hpl2
    obtain ⟨I, hI⟩ : ∃ I, I = strOf (shaL (strOf (padK k.data.toList 54 ++ t.data.toList))) := ⟨_, rfl⟩
    have hIs : I.size = 32 := by rw [hI, strOf_size, shaL_len]
    have ha1 := add_str (strOf (padK k.data.toList 54)) t (by rw [strOf_size, hpl]; omega)
    have ha2 := add_str (strOf (padK k.data.toList 92)) I (by rw [strOf_size, hpl2]; omega)
    rw [strOf_data] at ha1 ha2
    have HM : Hid (macL k t = shaL (strOf (padK k.data.toList 92 ++ I.data.toList))) := by
      show _ = _
      rw [macL_small (by omega), hI, strOf_data]
      unfold macIn
      rw [macKey_small (by omega)]
      rfl
    have HI := Lib.hid hI
    clear hI hpl hpl2
    go_wp2_with fail
    refine (lw54 k hk64 _).mono ?_
    rintro e w2 ⟨rfl, hb2⟩
    have HB2 := Lib.hid (HB1.out.trans (hb2.mono HB1.out.size))
    clear hb2
    go_wp2_with fail
    refine (digest_in (strOf (padK k.data.toList 54 ++ t.data.toList)) _ (HT.out.below HB2.out) (by rw [strOf_size, List.length_append, HPL.out, size_toL]; omega)).mono ?_
    rintro e w3 ⟨rfl, hb3⟩
    have HB3 := Lib.hid (HB2.out.trans (hb3.mono HB2.out.size))
    clear hb3 ha1
    rw [← HI.out]
    go_wp2_with fail
    refine (impl_mac k t _ (HT.out.below HB3.out) (by omega) (by omega)).mono ?_
    rintro e w4 ⟨rfl, hb4⟩
    have HB4 := Lib.hid (HB3.out.trans (hb4.mono HB3.out.size))
    clear hb4
    rw [HM.out]
    go_wp2_with fail
    refine (lw92 k hk64 _).mono ?_
    rintro e w5 ⟨rfl, hb5⟩
    have HB5 := Lib.hid (HB4.out.trans (hb5.mono HB4.out.size))
    clear hb5
    go_wp2_with fail
    refine (digest_in (strOf (padK k.data.toList 92 ++ I.data.toList)) _ (HT.out.below HB5.out) (by rw [strOf_size, List.length_append, HPL2.out, size_toL]; omega)).mono ?_
    rintro e w6 ⟨rfl, hb6⟩
    have HB6 := Lib.hid (HB5.out.trans (hb6.mono HB5.out.size))
    clear hb6 ha2
    go_wp2_with fail
    refine (draw_digest a1 len1 cap1 _ h1 (R1.out.lift HB6.out HB6.out.size)).mono ?_
    rintro e x1 ⟨⟨_, rfl, ⟨t2, rfl, ht2⟩⟩, hc1⟩
    have HC1 := Lib.hid (HB6.out.trans (hc1.mono HB6.out.size))
    clear hc1
    go_wp2_with fail
    refine (draw_stretch a1 len1 cap1 _ h1 (R1.out.lift HC1.out HC1.out.size)).mono ?_
    rintro e x2 ⟨⟨_, rfl, ⟨p, n, rfl, hp, hn0, hn1⟩⟩, hc2⟩
    have HC2 := Lib.hid (HC1.out.trans (hc2.mono HC1.out.size))
    clear hc2
    go_wp2_with fail
    refine (impl_digest t2 _ (HT.out.below HC2.out) (by omega)).mono ?_
    rintro e x3 ⟨rfl, hc3⟩
    have HC3 := Lib.hid (HC2.out.trans (hc3.mono HC2.out.size))
    clear hc3
    go_wp2_with fail
    refine (spec_digest t2 _ (by omega)).mono ?_
    rintro e x4 ⟨rfl, hc4⟩
    have HC4 := Lib.hid (HC3.out.trans (hc4.mono HC3.out.size))
    clear hc4
    go_wp2_with fail
    refine (impl_stretch p n _ (HT.out.below HC4.out) (by omega)).mono ?_
    rintro e x5 ⟨rfl, hc5⟩
    have HC5 := Lib.hid (HC4.out.trans (hc5.mono HC4.out.size))
    clear hc5
    go_wp2_with fail
    refine (spec_stretch p n _ (by omega)).mono ?_
    rintro e x6 ⟨rfl, hc6⟩
    have HC6 := Lib.hid (HC5.out.trans (hc6.mono HC5.out.size))
    clear hc6
    by_cases hn : n < 1
    · have hd1 : decide (n < 1) = true := decide_eq_true hn
      go_wp2_with fail
      all_goals (go_ret; exact ⟨rfl, HC6.out⟩)
    · by_cases hn2 : 99 < n
      · have hd1 : decide (n < 1) = false := decide_eq_false hn
        have hd2 : decide (99 < n) = true := decide_eq_true hn2
        go_wp2_with fail
        all_goals (go_ret; exact ⟨rfl, HC6.out⟩)
      · obtain ⟨m, rfl⟩ : ∃ m : Nat, n = m := ⟨n.toNat, by omega⟩
        have hd1 : decide ((m : Int) < 1) = false := decide_eq_false hn
        have hd2 : decide (99 < (m : Int)) = false := decide_eq_false hn2
        have HN := Lib.hid (stretch_next (p := p) (m := m) hp (by omega) (by omega))
        have HSS := Lib.hid (stretchS_size p (m : Int))
        go_wp2_with fail
        refine (impl_stretch p ((m : Int) + 1) _ (HT.out.below HC6.out) (by omega)).mono ?_
        rintro e x7 ⟨rfl, hc7⟩
        have HC7 := Lib.hid (HC6.out.trans (hc7.mono HC6.out.size))
        clear hc7
        rw [HN.out]
        go_wp2_with fail
        refine (impl_stretch p (m : Int) _ (HT.out.below HC7.out) (by omega)).mono ?_
        rintro e x8 ⟨rfl, hc8⟩
        have HC8 := Lib.hid (HC7.out.trans (hc8.mono HC7.out.size))
        clear hc8
        go_wp2_with fail
        refine (impl_mac p (stretchS p (m : Int)) _ (HT.out.below HC8.out) (by omega) (by have := HSS.out; omega)).mono ?_
        rintro e x9 ⟨rfl, hc9⟩
        have HC9 := Lib.hid (HC8.out.trans (hc9.mono HC8.out.size))
        clear hc9
        go_wp2_with fail
        all_goals (go_ret; exact ⟨rfl, HC9.out⟩)
  · go_wp2_with fail
    refine (draw_digest a1 len1 cap1 _ h1 (R1.out.lift HB1.out HB1.out.size)).mono ?_
    rintro e x1 ⟨⟨_, rfl, ⟨t2, rfl, ht2⟩⟩, hc1⟩
    have HC1 := Lib.hid (HB1.out.trans (hc1.mono HB1.out.size))
    clear hc1
    go_wp2_with fail
    refine (draw_stretch a1 len1 cap1 _ h1 (R1.out.lift HC1.out HC1.out.size)).mono ?_
    rintro e x2 ⟨⟨_, rfl, ⟨p, n, rfl, hp, hn0, hn1⟩⟩, hc2⟩
    have HC2 := Lib.hid (HC1.out.trans (hc2.mono HC1.out.size))
    clear hc2
    go_wp2_with fail
    refine (impl_digest t2 _ (HT.out.below HC2.out) (by omega)).mono ?_
    rintro e x3 ⟨rfl, hc3⟩
    have HC3 := Lib.hid (HC2.out.trans (hc3.mono HC2.out.size))
    clear hc3
    go_wp2_with fail
    refine (spec_digest t2 _ (by omega)).mono ?_
    rintro e x4 ⟨rfl, hc4⟩
    have HC4 := Lib.hid (HC3.out.trans (hc4.mono HC3.out.size))
    clear hc4
    go_wp2_with fail
    refine (impl_stretch p n _ (HT.out.below HC4.out) (by omega)).mono ?_
    rintro e x5 ⟨rfl, hc5⟩
    have HC5 := Lib.hid (HC4.out.trans (hc5.mono HC4.out.size))
    clear hc5
    go_wp2_with fail
    refine (spec_stretch p n _ (by omega)).mono ?_
    rintro e x6 ⟨rfl, hc6⟩
    have HC6 := Lib.hid (HC5.out.trans (hc6.mono HC5.out.size))
    clear hc6
    by_cases hn : n < 1
    · have hd1 : decide (n < 1) = true := decide_eq_true hn
      go_wp2_with fail
      all_goals (go_ret; exact ⟨rfl, HC6.out⟩)
    · by_cases hn2 : 99 < n
      · have hd1 : decide (n < 1) = false := decide_eq_false hn
        have hd2 : decide (99 < n) = true := decide_eq_true hn2
        go_wp2_with fail
        all_goals (go_ret; exact ⟨rfl, HC6.out⟩)
      · obtain ⟨m, rfl⟩ : ∃ m : Nat, n = m := ⟨n.toNat, by omega⟩
        have hd1 : decide ((m : Int) < 1) = false := decide_eq_false hn
        have hd2 : decide (99 < (m : Int)) = false := decide_eq_false hn2
        have HN := Lib.hid (stretch_next (p := p) (m := m) hp (by omega) (by omega))
        have HSS := Lib.hid (stretchS_size p (m : Int))
        go_wp2_with fail
        refine (impl_stretch p ((m : Int) + 1) _ (HT.out.below HC6.out) (by omega)).mono ?_
        rintro e x7 ⟨rfl, hc7⟩
        have HC7 := Lib.hid (HC6.out.trans (hc7.mono HC6.out.size))
        clear hc7
        rw [HN.out]
        go_wp2_with fail
        refine (impl_stretch p (m : Int) _ (HT.out.below HC7.out) (by omega)).mono ?_
        rintro e x8 ⟨rfl, hc8⟩
        have HC8 := Lib.hid (HC7.out.trans (hc8.mono HC7.out.size))
        clear hc8
        go_wp2_with fail
        refine (impl_mac p (stretchS p (m : Int)) _ (HT.out.below HC8.out) (by omega) (by have := HSS.out; omega)).mono ?_
        rintro e x9 ⟨rfl, hc9⟩
        have HC9 := Lib.hid (HC8.out.trans (hc9.mono HC8.out.size))
        clear hc9
        go_wp2_with fail
        all_goals (go_ret; exact ⟨rfl, HC9.out⟩)
end Go.Proofs.YtihhcnokkmdhhaaDoor
