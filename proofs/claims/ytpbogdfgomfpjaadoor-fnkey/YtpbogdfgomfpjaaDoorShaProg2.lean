/- The words that the program makes of a block. -/
import Derived.Test.YtpbogdfgomfpjaaDoorShaProg1
import Derived.Deep.RegionHeld3
import Derived.WalkSpells
import Derived.Deep.MidRow
import Derived.Outline
namespace Go.Proofs.YtpbogdfgomfpjaaDoor
open Go.RowKit

/-- The first bytes of a word as a number. -/
def partN (b : List UInt8) (k : Nat) : Nat → Nat
  | 0 => 0
  | j + 1 => 256 * partN b k j + (b.getD (4 * k + j) 0).toNat
theorem partN_lt (b : List UInt8) (k : Nat) : ∀ j, partN b k j < 256 ^ j
  | 0 => by simp [partN]
  | j + 1 => by
    have h := partN_lt b k j
    have := (b.getD (4 * k + j) 0).toNat_lt
    unfold partN
    rw [Nat.pow_succ]
    omega
theorem partN_four (b : List UInt8) (k : Nat) : ((partN b k 4 : Nat) : Int) = wz (wordB b k) := by
  have h0 := (b.getD (4 * k) 0).toNat_lt
  have h1 := (b.getD (4 * k + 1) 0).toNat_lt
  have h2 := (b.getD (4 * k + 2) 0).toNat_lt
  have h3 := (b.getD (4 * k + 3) 0).toNat_lt
  unfold wordB wz
  simp only [partN, Nat.add_zero]
  generalize (b.getD (4 * k) 0).toNat = B0 at *
  generalize (b.getD (4 * k + 1) 0).toNat = B1 at *
  generalize (b.getD (4 * k + 2) 0).toNat = B2 at *
  generalize (b.getD (4 * k + 3) 0).toNat = B3 at *
  have e : (UInt32.ofNat (16777216 * B0 + 65536 * B1 + 256 * B2 + B3)).toNat = 16777216 * B0 + 65536 * B1 + 256 * B2 + B3 := by simp; omega
  rw [e]
  omega
theorem partN_or {v B : Nat} (hv : v < 16777216) (hB : B < 256) : bits .or .u32 ((v : Int) * 256) (B : Int) = ((256 * v + B : Nat) : Int) := by
  rw [show (v : Int) * 256 = ((256 * v : Nat) : Int) by omega, u32_or_nat _ _ (by omega) (by omega), nat_join 8 (256 * v) B (by omega) (by omega)]
/-- The cells of a block of bytes. -/
def byteCs (b : List UInt8) : List Value := b.map byteV
theorem byteCs_at {b : List UInt8} {i : Nat} (h : i < b.length) : (byteCs b)[i]? = some (.int .u8 ((b.getD i 0).toNat : Int)) := by
  unfold byteCs
  rw [List.getElem?_map, List.getElem?_eq_getElem h, List.getD_eq_getElem?_getD, List.getElem?_eq_getElem h]
  rfl
def zeros64 : List Value := List.replicate 64 (.int .u32 0)
/-- The world in which a block of bytes and room for two rows of words have been laid. -/
def laidB (w : World) (b : List UInt8) : World := ((w.alloc (.cells (byteCs b).toArray 128)).alloc (.cells zeros64.toArray 161)).alloc (.cells zeros64.toArray 161)

theorem zeros64_at {j : Nat} (h : j < 64) : zeros64[j]? = some (.int .u32 0) := by
  unfold zeros64
  rw [List.getElem?_replicate, if_pos h]
theorem laidB_bytes (w : World) (b : List UInt8) : Arr (laidB w b) w.heap.size 128 (byteCs b) := by
  unfold laidB
  exact (Below.heap_alloc _ _ _ (by simp; omega)).trans (heap_alloc2_old w _ _)
theorem laidB_out (w : World) (b : List UInt8) : Arr (laidB w b) (w.heap.size + 1) 161 zeros64 := by
  unfold laidB
  exact (Below.heap_alloc _ _ _ (by simp)).trans (heap_alloc2_new w _ _)
theorem laidB_words (w : World) (b : List UInt8) : Arr (laidB w b) (w.heap.size + 1 + 1) 161 zeros64 := by
  unfold laidB
  have h := heap_alloc_new ((w.alloc (.cells (byteCs b).toArray 128)).alloc (.cells zeros64.toArray 161)) (.cells zeros64.toArray 161)
  have e : ((w.alloc (.cells (byteCs b).toArray 128)).alloc (.cells zeros64.toArray 161)).heap.size = w.heap.size + 1 + 1 := by simp
  rw [e] at h
  exact h
theorem laidB_below (w : World) (b : List UInt8) : Below w.heap.size w (laidB w b) := (((Below.refl _ _).alloc (Nat.le_refl _) _).alloc (by simp) _).alloc (by simp; omega) _
theorem laidB_size (w : World) (b : List UInt8) : (laidB w b).heap.size = w.heap.size + 1 + 1 + 1 := by unfold laidB; simp
/-- Behind the first n words there are only zeros. -/
def ZeroFrom (cs : List Value) (n : Nat) : Prop := ∀ j, n ≤ j → j < 64 → cs[j]? = some (.int .u32 0)
theorem ZeroFrom.put {cs : List Value} {n : Nat} (h : ZeroFrom cs n) (v : Value) : ZeroFrom (cs.set n v) (n + 1) := fun j h1 h2 => by
  rw [List.getElem?_set_ne (by omega)]
  exact h j (by omega) h2
/-- The words up to k are there, of the k-th the first j bytes; behind it zeros. -/
def WordsTo (cs : List Value) (b : List UInt8) (k j : Nat) : Prop := Words cs k b ∧ cs[k]? = some (.int .u32 (partN b k j : Int)) ∧ ZeroFrom cs (k + 1)
theorem WordsTo.put {cs : List Value} {b : List UInt8} {k j : Nat} (h : WordsTo cs b k j) (hk : k < 64) {z : Int} (hz : z = (partN b k (j + 1) : Int)) : WordsTo (cs.set k (.int .u32 z)) b k (j + 1) := by
  subst hz
  obtain ⟨h1, h2, h3⟩ := h
  refine ⟨⟨by simpa using h1.1, fun i hi => ?_⟩, List.getElem?_set_self (by rw [h1.1]; exact hk), fun i hi hi2 => ?_⟩
  · rw [List.getElem?_set_ne (by omega)]
    exact h1.2 i hi
  · rw [List.getElem?_set_ne (by omega)]
    exact h3 i hi hi2
theorem WordsTo.start {cs : List Value} {b : List UInt8} {k : Nat} (h : Words cs k b) (hz : ZeroFrom cs k) (hk : k < 64) : WordsTo cs b k 0 := ⟨h, hz k (Nat.le_refl _) hk, fun j h1 h2 => hz j (by omega) h2⟩
theorem WordsTo.whole {cs : List Value} {b : List UInt8} {k : Nat} (h : WordsTo cs b k 4) (hk : k < 16) : Words cs (k + 1) b ∧ ZeroFrom cs (k + 1) := by
  obtain ⟨h1, h2, h3⟩ := h
  refine ⟨⟨h1.1, fun i hi => ?_⟩, h3⟩
  by_cases e : i = k
  · subst e
    rw [h2, partN_four, shaW_first hk]
  · exact h1.2 i (by omega)

theorem size_w64 : (Tryd.prog.info? 161).map (·.size) = some 64 := by kernel_rfl
theorem Words.oneCell {cs : List Value} {b : List UInt8} (h : Words cs 64 b) : ∀ v ∈ cs, v.oneCell' = true := by
  intro v hv
  obtain ⟨i, hi, rfl⟩ := List.getElem_of_mem hv
  have h1 := h.2 i (by rw [← h.1]; exact hi)
  rw [List.getElem?_eq_getElem hi] at h1
  rw [Option.some.inj h1]
  rfl

set_option maxRecDepth 100000 in
set_option maxHeartbeats 1000000 in
theorem impl_schedule (b : List UInt8) (hb : b.length = 64) (w : World) :
    Calls Tryd.prog 124 #[.agg (byteCs b).toArray] w fun e w' =>
      (∃ cs, e = .returned (.agg cs.toArray) ∧ Words cs 64 b) ∧ Below w.heap.size w w' := by
  have HL := Lib.hid hb
  clear hb
  go_enter Tryd.func124, Tryd.ntmps124
  go_wp2
  change Code.wp _ _ _ _ (laidB w b)
  have HB := Lib.hid (laidB_bytes w b)
  have HO := Lib.hid (laidB_out w b)
  have HW := Lib.hid (laidB_words w b)
  have HBE := Lib.hid (laidB_below w b)
  have HSZ := Lib.hid (laidB_size w b)
  obtain ⟨W, hW⟩ : ∃ W, W = laidB w b := ⟨_, rfl⟩
  rw [← hW] at HB HO HW HBE HSZ ⊢
  clear hW
  obtain ⟨G, hG⟩ : ∃ G, G = w.heap.size + 1 + 1 := ⟨_, rfl⟩
  rw [← hG] at HW HSZ ⊢
  obtain ⟨R, hR⟩ : ∃ R, R = w.heap.size + 1 := ⟨_, rfl⟩
  rw [← hR] at HO ⊢
  have hRG : R < G ∧ w.heap.size < R := by omega
  clear hR hG
  go_loopw [9] (fun i wr => ∃ (k : Nat) (cs : List Value), i = .int .i64 (k : Int) ∧ k ≤ 16 ∧ Arr wr G 161 cs ∧ Words cs k b ∧ ZeroFrom cs k ∧ Below G W wr) (fun i _ => 16 - (intOf i).toNat)
  case atStart => exact ⟨0, zeros64, rfl, by omega, HW.out, ⟨by simp [zeros64], fun j hj => by omega⟩, fun j _ hj => zeros64_at hj, Below.refl _ _⟩
  case round =>
    obtain ⟨k, cs, rfl, hk, hA, hWs, hZ, hbel⟩ := hrel
    by_cases hlt : k < 16
    · have HA := Lib.hid hA
      have HT := Lib.hid (WordsTo.start hWs hZ (by omega))
      clear hA hWs hZ
      go_wp2
      go_loopw [12] (fun i wr => ∃ (j : Nat) (cs : List Value), i = .int .i64 (j : Int) ∧ j ≤ 4 ∧ Arr wr G 161 cs ∧ WordsTo cs b k j ∧ Below G W wr) (fun i _ => 4 - (intOf i).toNat)
      case atStart => exact ⟨0, cs, rfl, by omega, HA.out, HT.out, hbel⟩
      case round =>
        clear HA HT hbel
        obtain ⟨j, cs, rfl, hj, hA, hT, hbel⟩ := hrel
        by_cases hlj : j < 4
        · have HA := Lib.hid hA
          have HT := Lib.hid hT
          have hfz := hA.free k
          have hcl := (hA.cell k).trans hT.2.1
          have hby : wr.cell? ⟨w.heap.size, 4 * k + j, none⟩ = some (.int .u8 ((b.getD (4 * k + j) 0).toNat : Int)) :=
            (hbel.cell (p := ⟨w.heap.size, 4 * k + j, none⟩) (by show w.heap.size < G; omega)).trans ((HB.out.cell _).trans (byteCs_at (by have := HL.out; omega)))
          clear hA hT
          have hv : partN b k j < 16777216 := Nat.lt_of_lt_of_le (partN_lt b k j) (by
            have : j = 0 ∨ j = 1 ∨ j = 2 ∨ j = 3 := by omega
            rcases this with rfl | rfl | rfl | rfl <;> decide)
          have HP := Lib.hid (show partN b k (j + 1) = 256 * partN b k j + (b.getD (4 * k + j) 0).toNat from rfl)
          obtain ⟨B, eB⟩ : ∃ B, B = (b.getD (4 * k + j) 0).toNat := ⟨_, rfl⟩
          obtain ⟨v, ev⟩ : ∃ v, v = partN b k j := ⟨_, rfl⟩
          have hB : B < 256 := by rw [eB]; exact (b.getD (4 * k + j) 0).toNat_lt
          rw [← eB] at hby HP
          rw [← ev] at hcl hv HP
          clear eB ev
          have HOR := Lib.hid (partN_or hv hB)
          have q1 : (4 * (k : Int) + (j : Int)).toNat = 4 * k + j := by omega
          have q2 : 0 ≤ 4 * (k : Int) + (j : Int) := by omega
          have q3 : 4 * (k : Int) + (j : Int) < 64 := by omega
          have q4 : (k : Int) < 64 := by omega
          have hBz : (B : Int) ≤ 255 := by omega
          have hvz : (v : Int) ≤ 16777215 := by omega
          go_wp2
          go_region
          go_wp2
          go_roundw
          case rel =>
            rw [HOR.out, ← HP.out]
            exact ⟨j + 1, cs.set k _, by go_num, by omega, HA.out.put k _, HT.out.put (by omega) rfl, (hbel.setCell (Nat.le_refl _) _).drew⟩
          case measure => simp [intOf]; omega
        · obtain rfl : j = 4 := by omega
          obtain ⟨hW1, hZ1⟩ := hT.whole hlt
          have HA := Lib.hid hA
          have HW1 := Lib.hid hW1
          have HZ1 := Lib.hid hZ1
          clear hA hT hW1 hZ1 hlj
          rw [show ((4 : Nat) : Int) = 4 from rfl]
          go_wp2
          go_roundw
          case rel => exact ⟨k + 1, cs, by go_num, by omega, HA.out, HW1.out, HZ1.out, hbel⟩
          case measure => simp [intOf]; omega
    · obtain rfl : k = 16 := by omega
      clear hlt
      have HA := Lib.hid hA
      have HWs := Lib.hid hWs
      clear hA hWs hZ HW
      rw [show ((16 : Nat) : Int) = 16 from rfl]
      go_wp2
      go_loopw [6] (fun i wr => ∃ (k : Nat) (cs : List Value), i = .int .i64 (k : Int) ∧ 16 ≤ k ∧ k ≤ 64 ∧ Arr wr G 161 cs ∧ Words cs k b ∧ Below G W wr) (fun i _ => 64 - (intOf i).toNat)
      case atStart => exact ⟨16, cs, rfl, by omega, by omega, HA.out, HWs.out, hbel⟩
      case round =>
        clear HA HWs hbel
        obtain ⟨k, cs, rfl, hk16, hk, hA, hW, hbel⟩ := hrel
        by_cases hlt : k < 64
        · obtain ⟨m, rfl⟩ : ∃ m, k = m + 16 := ⟨k - 16, by omega⟩
          have HA := Lib.hid hA
          have HW := Lib.hid hW
          have k1 : wr.cell? ⟨G, m + 1, none⟩ = some (.int .u32 (wz (shaW b (m + 1)))) := (hA.cell (m + 1)).trans (hW.2 (m + 1) (by omega))
          clear hA hW
          obtain ⟨y0, e0⟩ : ∃ y, y = shaW b m := ⟨_, rfl⟩
          obtain ⟨y1, e1⟩ : ∃ y, y = shaW b (m + 1) := ⟨_, rfl⟩
          obtain ⟨y9, e9⟩ : ∃ y, y = shaW b (m + 9) := ⟨_, rfl⟩
          obtain ⟨y14, e14⟩ : ∃ y, y = shaW b (m + 14) := ⟨_, rfl⟩
          have HE := Lib.hid (show shaW b (m + 16) = y0 + sg0 y1 + y9 + sg1 y14 by rw [shaW_next (by omega), e0, e1, e9, e14]; rfl)
          have E0 := Lib.hid e0
          have E9 := Lib.hid e9
          have E14 := Lib.hid e14
          rw [← e1] at k1
          clear e0 e1 e9 e14
          have q1 : IntKind.i64.wrap ((m : Int) + 16 - 15) = (m : Int) + 1 := by rw [IntWalk.i64_in _ (by omega)]; omega
          have q2 : ((m : Int) + 1).toNat = m + 1 := by omega
          have q3 : (m : Int) + 1 < 64 := by omega
          have q4 : 0 ≤ (m : Int) + 1 := by omega
          have q5 : IntKind.i64.wrap (((m + 16 : Nat) : Int) - 15) = (m : Int) + 1 := by rw [IntWalk.i64_in _ (by omega)]; omega
          go_wp2
          go_quiet (first | (go_at_call 128; exact Calls.quiet_of_same (impl_rotated' _ _ (by constructor <;> decide) _)))
          rw [wz_sg0]
          clear q1 q2 q3 q4 q5 k1
          obtain ⟨W1, hW1⟩ : ∃ W1, W1 = wr.drewN nq := ⟨_, rfl⟩
          rw [← hW1]
          have HA1 : Hid (Arr W1 G 161 cs) := by rw [hW1]; exact HA
          have hbel1 : Below G W W1 := by rw [hW1]; exact below_drewNS hbel _
          clear hW1 HA hbel
          have k14 : W1.cell? ⟨G, m + 14, none⟩ = some (.int .u32 (wz y14)) := by rw [E14.out]; exact (HA1.out.cell (m + 14)).trans (HW.out.2 (m + 14) (by omega))
          have q1 : IntKind.i64.wrap ((m : Int) + 16 - 2) = (m : Int) + 14 := by rw [IntWalk.i64_in _ (by omega)]; omega
          have q2 : ((m : Int) + 14).toNat = m + 14 := by omega
          have q3 : (m : Int) + 14 < 64 := by omega
          have q4 : 0 ≤ (m : Int) + 14 := by omega
          have q5 : IntKind.i64.wrap (((m + 16 : Nat) : Int) - 2) = (m : Int) + 14 := by rw [IntWalk.i64_in _ (by omega)]; omega
          go_wp2
          go_quiet (first | (go_at_call 128; exact Calls.quiet_of_same (impl_rotated' _ _ (by constructor <;> decide) _)))
          rw [wz_sg1]
          clear q1 q2 q3 q4 q5 k14
          obtain ⟨W2, hW2⟩ : ∃ W2, W2 = W1.drewN nq := ⟨_, rfl⟩
          rw [← hW2]
          have HA2 : Hid (Arr W2 G 161 cs) := by rw [hW2]; exact HA1
          have hbel2 : Below G W W2 := by rw [hW2]; exact below_drewNS hbel1 _
          clear hW2 HA1 hbel1
          have k0 : W2.cell? ⟨G, m, none⟩ = some (.int .u32 (wz y0)) := by rw [E0.out]; exact (HA2.out.cell m).trans (HW.out.2 m (by omega))
          have k9 : W2.cell? ⟨G, m + 9, none⟩ = some (.int .u32 (wz y9)) := by rw [E9.out]; exact (HA2.out.cell (m + 9)).trans (HW.out.2 (m + 9) (by omega))
          have hfz := HA2.out.free (m + 16)
          obtain ⟨old, hcl⟩ : ∃ old, W2.cell? ⟨G, m + 16, none⟩ = some old := ⟨cs[m + 16]'(by rw [HW.out.1]; omega), by rw [HA2.out.cell (m + 16)]; exact List.getElem?_eq_getElem _⟩
          have q0 : IntKind.i64.wrap (((m + 16 : Nat) : Int) - 16) = (m : Int) := by rw [IntWalk.i64_in _ (by omega)]; omega
          have q1 : IntKind.i64.wrap ((m : Int)) = (m : Int) := by rw [IntWalk.i64_in _ (by omega)]
          have q2 : IntKind.i64.wrap (((m + 16 : Nat) : Int) - 7) = ((m + 9 : Nat) : Int) := by rw [IntWalk.i64_in _ (by omega)]; omega
          have q3 : IntKind.i64.wrap ((m : Int) + 16 - 7) = (m : Int) + 9 := by rw [IntWalk.i64_in _ (by omega)]; omega
          have q4 : (m : Int) < 64 := by omega
          have q5 : (m : Int) + 9 < 64 := by omega
          have q6 : (m : Int) + 16 < 64 := by omega
          have q7 : ((m + 9 : Nat) : Int) < 64 := by omega
          have q8 : ((m + 16 : Nat) : Int) < 64 := by omega
          have q9 : ((m : Int) + 9).toNat = m + 9 := by omega
          have q10 : ((m : Int) + 16).toNat = m + 16 := by omega
          have q11 : 0 ≤ (m : Int) + 9 := by omega
          have q12 : 0 ≤ (m : Int) + 16 := by omega
          have q13 : 0 ≤ (m : Int) := by omega
          go_wp2
          go_region
          go_wp2
          go_roundw
          case rel =>
            rw [wz_sum4, ← HE.out]
            exact ⟨m + 17, cs.set (m + 16) (.int .u32 (wz (shaW b (m + 16)))), by go_num, by omega, by omega, HA2.out.put (m + 16) _, HW.out.put (by omega) rfl, (hbel2.setCell (Nat.le_refl _) _).drew⟩
          case measure => simp [intOf]; omega
        · obtain rfl : k = 64 := by omega
          clear hlt
          have HA := Lib.hid hA
          have HWs := Lib.hid hW
          clear hA hW
          rw [show ((64 : Nat) : Int) = 64 from rfl]
          have hO : Arr wr R 161 zeros64 := (hbel.block R (by omega)).trans HO.out
          have HO2 := Lib.hid hO
          clear hO
          have hl := HWs.out.1
          have hi : (Tryd.prog.info? 161).map (·.size) = some cs.toArray.size := by rw [List.size_toArray, hl]; exact size_w64
          have h1 := all_oneCell_toArray HWs.out.oneCell
          have hz : zeros64.toArray.size = cs.toArray.size := by rw [List.size_toArray, List.size_toArray, hl]; rfl
          have HI := Lib.hid hi
          have H1 := Lib.hid h1
          have HZ := Lib.hid hz
          clear hi h1 hz hl
          go_wp2_with (first
            | (refine wpList_load_row rfl 161 _ rfl G rfl 161 _ (0, 0) _ HA.out Tryd.underlying161 rfl HI.out ?_)
            | (refine wpList_store_row rfl 161 _ _ rfl R _ rfl rfl 161 _ HO2.out HI.out HZ.out H1.out ?_))
          refine bodyPost_ret (v := .agg cs.toArray) ?hr rfl ⟨⟨cs, rfl, HWs.out⟩, ?hb⟩
          case hr => exact results_cell_row (P := Tryd.prog) Tryd.results124 _ _ R 161 cs.toArray (0, 0) _ rfl (setRow_heap _ _ _ _ _ _ HO2.out) Tryd.underlying161 rfl HI.out
          case hb => exact below_setRow (HBE.out.trans (hbel.mono (by omega))) (by omega) _
end Go.Proofs.YtpbogdfgomfpjaaDoor
