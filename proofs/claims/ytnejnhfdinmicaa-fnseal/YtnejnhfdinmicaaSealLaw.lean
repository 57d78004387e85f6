/- The law of sealed strings, walked: whatever is drawn, it answers true. -/
import Derived.Test.YtnejnhfdinmicaaSealMath
import Derived.Test.YtnejnhfdinmicaaSealDraws
import Derived.Deep.RegionHeld3
import Derived.WalkSpells
namespace Go.Proofs.Ytnejnhfdinmicaa
open Go.RowKit

theorem run_string_cells {P : Program} (w : World) (src dst e g cap n : Nat) (l : List UInt8) (hn : n = l.length) (hc : ∀ j (hj : j < l.length), w.cell? ⟨g, j, none⟩ = some (byteV l[j]))
    (hs : P.underlying src = some (.slice e)) (he : P.underlying e = some (.int .u8)) (hd : P.underlying dst = some .string) :
    (convert src dst (.slice (some ⟨g, 0, none⟩) n cap)).run P w = .ok (.string (strOf l)) w := by
  subst hn
  refine run_convert_bytes_back w src dst e ⟨g, 0, none⟩ cap l hs he hd (fun j hj => ?_)
  have : (⟨g, 0, none⟩ : Addr).add j = ⟨g, j, none⟩ := by unfold Addr.add; split <;> simp_all
  rw [this]
  exact hc j hj
theorem changed_lt {L t : ByteArray} {k : Nat} (hL : L = strOf (sealL t)) (hk : k < L.size) : k < (sealL t).length := by rw [hL, strOf_size] at hk; exact hk
theorem data_at {l : List UInt8} {L : ByteArray} (hL : L = strOf l) {j : Nat} (hj : j < L.size) (hj' : j < l.length) : L.data[j] = l[j] := by
  subst hL
  simp [strOf]
theorem changed_ne {L t : ByteArray} {k z y : Nat} (hL : L = strOf (sealL t)) (hk : k < L.size) (hz : z = L.data[k].toNat) (hy : y < 256) (hne : y ≠ z) : UInt8.ofNat y ≠ (sealL t)[k]'(changed_lt hL hk) := by
  rw [data_at hL hk (changed_lt hL hk)] at hz
  intro e
  have := congrArg UInt8.toNat e
  simp at this
  omega
theorem changed_cells {L t : ByteArray} {k y z g : Nat} {W4 W5 : World} (hL : L = strOf (sealL t)) (_ : ¬ 19996 < t.size) (hk : k < L.size)
    (hc : ∀ j (hj : j < L.size), W4.cell? ⟨g, j, none⟩ = some (byteV L.data[j]) ∧ W4.frozen? ⟨g, j, none⟩ = false) (ck : W4.cell? ⟨g, k, none⟩ = some (.int .u8 (z : Int))) (hy : y < 256)
    (hW : W5 = (W4.setCell ⟨g, k, none⟩ (.int .u8 (y : Int))).drew) :
    ∀ j (hj : j < ((sealL t).set k (UInt8.ofNat y)).length), W5.cell? ⟨g, j, none⟩ = some (byteV ((sealL t).set k (UInt8.ofNat y))[j]) := by
  intro j hj
  subst hW
  show (W4.setCell ⟨g, k, none⟩ (.int .u8 (y : Int))).cell? ⟨g, j, none⟩ = _
  by_cases hjk : j = k
  · subst hjk
    rw [World.cell?_setCell_same _ _ _ ck, List.getElem_set_self, ← byteV_ofNat hy rfl]
  · rw [World.cell?_setCell_other W4 ⟨g, k, none⟩ ⟨g, j, none⟩ _ (by simp), List.getElem_set_ne (Ne.symm hjk)]
    have hjl : j < (sealL t).length := by simpa using hj
    have hjL : j < L.size := by rw [hL, strOf_size]; exact hjl
    rw [(hc j hjL).1, data_at hL hjL hjl]

set_option maxRecDepth 100000 in
set_option maxHeartbeats 4000000 in
theorem seal_law (a0 : Option Addr) (len0 cap0 : Nat) (a1 : Option Addr) (len1 cap1 : Nat) (w : World) (h0 : len0 ≤ 1048576) (h1 : len1 ≤ 1048576) (r0 : SrcRow w w.heap.size a0 len0) (r1 : SrcRow w w.heap.size a1 len1) :
    Calls Try.prog 3 #[.slice a0 len0 cap0, .slice a1 len1 cap1] w fun e w' => e = .returned (.bool true) ∧ Below w.heap.size w w' := by
  have R0 := Lib.hid r0
  have R1 := Lib.hid r1
  clear r0 r1
  go_enter Try.func3, Try.ntmps3
  go_wp2_with fail
  refine (draw_seal a0 len0 cap0 _ h0 R0.out).mono ?_
  rintro e w1 ⟨⟨_, rfl, ⟨t, rfl, ht⟩⟩, hb1⟩
  by_cases hbig : 19996 < t.size
  · have hE : (strOf (sealL t)).toList = [] := by rw [ByteArray.toList_eq, strOf_data, sealL_big hbig]
    go_wp2_with (first
      | (go_at_call 12; refine (impl_seal t _ (by omega)).mono ?_; rintro e w2 ⟨rfl, hb2⟩)
      | (go_at_call 13; refine (spec_seal t _ (by omega)).mono ?_; rintro e w3 ⟨rfl, hb3⟩))
    have hbk := (hb1.trans (hb2.mono hb1.size)).trans (hb3.mono (Nat.le_trans hb1.size hb2.size))
    refine (draw_crcmore a1 len1 cap1 _ h1 (R1.out.lift hbk hbk.size)).mono ?_
    rintro e w8 ⟨⟨_, rfl, ⟨c, u, rfl, hu, hc0, hc1⟩⟩, hb8⟩
    by_cases hsum : 20000 < t.size + u.size
    · go_wp2
      go_ret
      exact ⟨rfl, hbk.trans (hb8.mono hbk.size)⟩
    · have HC := Lib.hid (crc_goes_on (t := t) (u := u) (by omega))
      have hadd := fun W => run_string_add_sum (P := Try.prog) W t u (by omega)
      have hz1 := ByteArray.size_append (a := t) (b := u)
      have HZ1 := Lib.hid hz1
      clear hz1
      go_wp2_with (first
        | (go_at_call 18; refine (spec_crcmore _ _ _ (by omega)).mono ?_; rintro e w9 ⟨rfl, rfl⟩)
        | (go_at_call 17; refine (impl_crcmore _ _ _ (by omega)).mono ?_; rintro e w9 ⟨rfl, rfl⟩)
        | (go_at_call 19; refine (impl_crc _ _ (by first | omega | (rw [HZ1.out]; omega))).mono ?_; rintro e w9 ⟨rfl, rfl⟩))
      go_ret
      refine ⟨ret_bool ?_, hbk.trans (hb8.mono hbk.size)⟩
      simp [HC.out]
  · obtain ⟨L, hL⟩ : ∃ L, L = strOf (sealL t) := ⟨_, rfl⟩
    have hE : L.toList.isEmpty = false := by
      rw [hL, ByteArray.toList_eq, strOf_data, sealL_small hbig]
      simp [crcL, fourL]
    have hLs : L.size = t.size + 4 := by rw [hL, strOf_size, seal_len hbig]
    have hL4 : 4 ≤ L.size := by omega
    have hL5 : L.size ≤ 20000 := by omega
    have HL := Lib.hid hL
    clear hL hLs
    have hcb := fun W => run_bytes_of_string (P := Try.prog) W 9 22 5 L Try.underlying9 Try.underlying22 Try.underlying5
    go_wp2_with (first
      | (go_at_call 12; refine (impl_seal t _ (by omega)).mono ?_; rintro e w2 ⟨rfl, hb2⟩; rw [← HL.out])
      | (go_at_call 13; refine (spec_seal t _ (by omega)).mono ?_; rintro e w3 ⟨rfl, hb3⟩; rw [← HL.out]))
    have hbk := (hb1.trans (hb2.mono hb1.size)).trans (hb3.mono (Nat.le_trans hb1.size hb2.size))
    clear hcb
    obtain ⟨cp, hcp⟩ : ∃ cp, cp = grownCap w3 L.size 0 5 := ⟨_, rfl⟩
    rw [← hcp]
    clear hcp
    obtain ⟨W4, hW4⟩ : ∃ W, W = (w3.alloc (.cells (bytesRow L cp) 5 ((bytesRow L cp).size, (bytesRow L cp).size + 1))).drew := ⟨_, rfl⟩
    rw [← hW4]
    have hcells : ∀ j (hj : j < L.size), W4.cell? ⟨w3.heap.size, j, none⟩ = some (byteV L.data[j]) ∧ W4.frozen? ⟨w3.heap.size, j, none⟩ = false := fun j hj => by rw [hW4]; exact bytes_laid w3 L cp 5 hj
    have hb4 : Below w.heap.size w W4 := by rw [hW4]; exact (hbk.alloc hbk.size _).drew
    have hg4 : w3.heap.size < W4.heap.size := by rw [hW4]; show w3.heap.size < (w3.alloc _).heap.size; simp
    have hz3 := hbk.size
    clear hW4 hb1 hb2 hb3 hbk
    obtain ⟨k, hk0, hk1, hlk⟩ := lw_det a1 len1 cap1 0 0 rfl L.size W4 h1 (R1.out.lift hb4 hb4.size) (by omega) (by omega) (by omega)
    obtain ⟨k, rfl⟩ : ∃ m : Nat, k = m := ⟨k.toNat, by omega⟩
    have hkL : k < L.size := by omega
    obtain ⟨x, hx0, hx1, hlx⟩ := lw_det a1 len1 cap1 1 1 rfl 255 W4 h1 (R1.out.lift hb4 hb4.size) (by omega) (by omega) (by omega)
    obtain ⟨ck, fk⟩ := hcells k hkL
    have HCE := Lib.hid hcells
    clear hcells
    have HK := Lib.hid hlk
    have HX := Lib.hid hlx
    clear hlk hlx
    obtain ⟨z, hz⟩ : ∃ z : Nat, z = L.data[k].toNat := ⟨_, rfl⟩
    have ck' : W4.cell? ⟨w3.heap.size, k, none⟩ = some (.int .u8 (z : Int)) := by rw [ck, hz]; rfl
    have hz8 : (z : Int) ≤ 255 := by have := L.data[k].toNat_lt; omega
    have HZ := Lib.hid hz
    clear ck hz
    obtain ⟨X, hX⟩ : ∃ X : Nat, 1 + x = X := ⟨(1 + x).toNat, by omega⟩
    have hX1 : 0 < X ∧ X < 256 := by omega
    obtain ⟨y, hy⟩ : ∃ y : Nat, y = z ^^^ X := ⟨_, rfl⟩
    have hy1 := xor8_ne (a := z) (x := X) (by omega) hX1.2 hX1.1
    rw [← hy] at hy1
    have hxz : bits .xor .u8 (z : Int) (X : Int) = (y : Int) := by rw [hy]; exact u8_xor_nat z X (by omega) hX1.2
    have hw1 : IntKind.i64.wrap (1 + x) = (X : Int) := by rw [IntWalk.i64_in _ (by omega)]; exact hX
    have hw2 : IntKind.u8.wrap (X : Int) = (X : Int) := by rw [IntKind.wrap_u8']; omega
    have hw3 : (X : Int) % 256 = (X : Int) := by omega
    have HY := Lib.hid hy1
    clear hy hy1 hX
    refine (HK.out _ rfl).mono ?_
    rintro e w5 ⟨rfl, rfl⟩
    go_wp2
    go_region_with (go_at_call 14; refine (HX.out W4.drew rfl).mono ?_; rintro e w5 ⟨rfl, rfl⟩)
    all_goals
      obtain ⟨W5, hW5⟩ : ∃ W, W = (W4.setCell ⟨w3.heap.size, k, none⟩ (.int .u8 (y : Int))).drew := ⟨_, rfl⟩
      rw [← hW5]
      have hb5 : Below w.heap.size w W5 := by rw [hW5]; exact (hb4.setCell (p := ⟨w3.heap.size, k, none⟩) hz3 _).drew
      have hg5 : w3.heap.size < W5.heap.size := by rw [hW5]; show w3.heap.size < (W4.setCell _ _).heap.size; simpa [World.setCell] using hg4
      have HM := Lib.hid (changed_cells (L := L) (t := t) HL.out hbig hkL HCE.out ck' (by have := HY.out; omega) hW5)
      have HU1 := Lib.hid (show unsealV L = textOut t 0 0 by rw [HL.out]; exact unseal_good hbig)
      have HU2 := Lib.hid (show unsealV (strOf ((sealL t).set k (UInt8.ofNat y))) = textOut ⟨#[]⟩ 0 5 from unseal_changed hbig (changed_lt HL.out hkL) (changed_ne HL.out hkL HZ.out (by have := HY.out; omega) HY.out.2))
      have HN := Lib.hid (show L.size = ((sealL t).set k (UInt8.ofNat y)).length by rw [List.length_set, HL.out, strOf_size])
      clear hW5 hxz hw1 hw2 hw3 ck' fk hb4 hg4
      go_wp2_with fail
      refine (impl_unseal L _ (by omega)).mono ?_
      rintro e w6 ⟨rfl, hb6⟩
      rw [HU1.out]
      unfold textOut
      have hcv := run_string_cells (P := Try.prog) w6 22 9 5 w3.heap.size cp L.size ((sealL t).set k (UInt8.ofNat y)) HN.out (fun j hj => (hb6.cell (p := ⟨w3.heap.size, j, none⟩) hg5).trans (HM.out j hj)) Try.underlying22 Try.underlying5 Try.underlying9
      go_wp2_with fail
      refine (impl_unseal (strOf ((sealL t).set k (UInt8.ofNat y))) _ (by rw [strOf_size, ← HN.out]; omega)).mono ?_
      rintro e w7 ⟨rfl, hb7⟩
      rw [HU2.out]
      unfold textOut
      have hb9 := (hb5.trans (hb6.mono hb5.size)).trans (hb7.mono (Nat.le_trans hb5.size hb6.size))
      clear hcv hb5 hb6 hb7
      have hfl : ∀ W : World, (Instr.field 27 (.agg #[.string ⟨#[]⟩, .int .i64 0, .int .i64 5]) 2).run Try.prog W = .ok (.int .i64 5) W := fun _ => by kernel_rfl
      go_wp2_with fail
      refine (draw_crcmore a1 len1 cap1 _ h1 (R1.out.lift hb9 hb9.size)).mono ?_
      rintro e w8 ⟨⟨_, rfl, ⟨c, u, rfl, hu, hc0, hc1⟩⟩, hb8⟩
      by_cases hsum : 20000 < t.size + u.size
      · go_wp2
        go_ret
        exact ⟨rfl, hb9.trans (hb8.mono hb9.size)⟩
      · have HC := Lib.hid (crc_goes_on (t := t) (u := u) (by omega))
        have hadd := fun W => run_string_add_sum (P := Try.prog) W t u (by omega)
        have hz1 := ByteArray.size_append (a := t) (b := u)
        have HZ1 := Lib.hid hz1
        clear hz1
        go_wp2_with (first
          | (go_at_call 18; refine (spec_crcmore _ _ _ (by omega)).mono ?_; rintro e w9 ⟨rfl, rfl⟩)
          | (go_at_call 17; refine (impl_crcmore _ _ _ (by omega)).mono ?_; rintro e w9 ⟨rfl, rfl⟩)
          | (go_at_call 19; refine (impl_crc _ _ (by first | omega | (rw [HZ1.out]; omega))).mono ?_; rintro e w9 ⟨rfl, rfl⟩))
        go_ret
        refine ⟨ret_bool ?_, hb9.trans (hb8.mono hb9.size)⟩
        simp [HC.out]
end Go.Proofs.Ytnejnhfdinmicaa
