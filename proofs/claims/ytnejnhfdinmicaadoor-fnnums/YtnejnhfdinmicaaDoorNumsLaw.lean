/- The law of numbers and strings written, walked: whatever is drawn, it answers true. -/
import Derived.Test.YtnejnhfdinmicaaDoorNumsMath
import Derived.Test.YtnejnhfdinmicaaDoorNumsDraws
import Derived.Deep.RegionHeld3
import Derived.WalkSpells
namespace Go.Proofs.YtnejnhfdinmicaaDoor
open Go.RowKit

set_option maxRecDepth 100000 in
set_option maxHeartbeats 4000000 in
theorem nums_law (a0 : Option Addr) (len0 cap0 : Nat) (a1 : Option Addr) (len1 cap1 : Nat) (w : World) (h0 : len0 ≤ 1048576) (h1 : len1 ≤ 1048576) (r0 : SrcRow w w.heap.size a0 len0) (r1 : SrcRow w w.heap.size a1 len1) (hg : ErrLaid w) :
    Calls Tryd.prog 3 #[.slice a0 len0 cap0, .slice a1 len1 cap1] w fun e w' => e = .returned (.bool true) ∧ Below w.heap.size w w' := by
  have R0 := Lib.hid r0
  have R1 := Lib.hid r1
  have HG := Lib.hid hg
  clear r0 r1 hg
  go_enter Tryd.func3, Tryd.ntmps3
  go_wp2_with fail
  refine (draw_putnum a0 len0 cap0 _ h0 R0.out).mono ?_
  rintro e w1 ⟨⟨_, rfl, ⟨n, rfl, hn0, hn1⟩⟩, hb1⟩
  obtain ⟨L, hL⟩ : ∃ L, L = strOf (putL n) := ⟨_, rfl⟩
  have hLs : L.size = (putL n).length := by rw [hL, strOf_size]
  have hL1 : 1 ≤ L.size := by rw [hLs]; exact put_pos n
  have hL2 : L.size ≤ 10 := by rw [hLs]; exact putL_len hn0 hn1
  have HL := Lib.hid hL
  clear hL hLs
  go_wp2_with (first
    | (go_at_call 7; refine (impl_putnum n _ hn0 hn1).mono ?_; rintro e w2 ⟨rfl, hb2⟩; rw [← HL.out])
    | (go_at_call 8; refine (spec_putnum n _ hn0 hn1).mono ?_; rintro e w3 ⟨rfl, hb3⟩; rw [← HL.out]))
  have hb3' := (hb1.trans (hb2.mono hb1.size)).trans (hb3.mono (Nat.le_trans hb1.size hb2.size))
  clear hb1 hb2 hb3
  have HB := Lib.hid (num_back hn0 hn1 HL.out 120 121 122)
  have HI := Lib.hid (num_init hn0 hn1 HL.out)
  have hsz : (ByteArray.mk #[120, 121] ++ L ++ ⟨#[122]⟩).size ≤ 9223372036854775807 := by rw [ByteArray.size_append, ByteArray.size_append, show (ByteArray.mk #[120, 121]).size = 2 from rfl, show (ByteArray.mk #[122]).size = 1 from rfl]; omega
  refine (impl_getnum _ 2 _ (HG.out.below hb3') hsz (by omega)).mono ?_
  rintro e w4 ⟨rfl, hb4⟩
  rw [HB.out]
  unfold numOut
  clear hsz
  have hb4' := hb3'.trans (hb4.mono hb3'.size)
  clear hb3' hb4
  go_wp2_with fail
  refine (impl_getnum _ 0 _ ((HG.out.below hb4').alloc _) (extract_le L _ _ _ (by omega)) (by omega)).mono ?_
  rintro e w5 ⟨rfl, hb5⟩
  rw [HI.out]
  unfold numOut
  have hb5' := hb4'.trans ((below_one hb5).mono hb4'.size)
  clear hb4' hb5
  have hfl : ∀ W : World, (Instr.field 26 (.agg #[.int .i64 0, .int .i64 0, .int .i64 4]) 2).run Tryd.prog W = .ok (.int .i64 4) W := fun _ => by kernel_rfl
  go_wp2_with fail
  refine (draw_puttext a1 len1 cap1 _ h1 (R1.out.lift hb5' hb5'.size)).mono ?_
  rintro e w6 ⟨⟨_, rfl, ⟨u, rfl, hu⟩⟩, hb6⟩
  have hb6' := hb5'.trans (hb6.mono hb5'.size)
  clear hb5' hb6
  by_cases hbig : 20000 < u.size
  · have hE : (strOf (putTextL u)).toList = [] := by rw [ByteArray.toList_eq, strOf_data, putTextL_big hbig]
    go_wp2_with (first
      | (go_at_call 11; refine (impl_puttext u _ (by omega)).mono ?_; rintro e w7 ⟨rfl, hb7⟩; replace hb6' := hb6'.trans (hb7.mono hb6'.size); clear hb7)
      | (go_at_call 12; refine (spec_puttext u _ (by omega)).mono ?_; rintro e w8 ⟨rfl, hb8⟩; replace hb6' := hb6'.trans (hb8.mono hb6'.size); clear hb8))
    all_goals
      go_ret
      exact ⟨rfl, hb6'⟩
  · obtain ⟨P, hP⟩ : ∃ P, P = strOf (putTextL u) := ⟨_, rfl⟩
    have hPs := text_len hbig hP
    have hp1 := put_pos (u.size : Int)
    have hp2 := putL_len (n := (u.size : Int)) (by omega) (by omega)
    have hE : P.toList.isEmpty = false := by
      rw [ByteArray.toList_eq, hP, strOf_data, putTextL_small hbig]
      rw [List.isEmpty_eq_false_iff]
      intro e
      have := congrArg List.length e
      rw [List.length_append, List.length_nil] at this
      omega
    have hP1 : 1 ≤ P.size := by omega
    have hP2 : P.size ≤ 20010 := by omega
    have HP := Lib.hid hP
    clear hP hPs hp1 hp2
    by_cases hsum : 20000 < P.size + 1
    · go_wp2_with (first
        | (go_at_call 11; refine (impl_puttext u _ (by omega)).mono ?_; rintro e w7 ⟨rfl, hb7⟩; rw [← HP.out]; replace hb6' := hb6'.trans (hb7.mono hb6'.size); clear hb7)
        | (go_at_call 12; refine (spec_puttext u _ (by omega)).mono ?_; rintro e w8 ⟨rfl, hb8⟩; rw [← HP.out]; replace hb6' := hb6'.trans (hb8.mono hb6'.size); clear hb8))
      all_goals
        go_ret
        exact ⟨rfl, hb6'⟩
    · obtain ⟨n1, b1, c1, HT1, HT2⟩ := text_back hbig HP.out (by omega) 120
      obtain ⟨n2, b2, c2, HT3, HT4⟩ := text_init hbig HP.out (by omega)
      go_wp2_with (first
        | (go_at_call 11; refine (impl_puttext u _ (by omega)).mono ?_; rintro e w7 ⟨rfl, hb7⟩; rw [← HP.out]; replace hb6' := hb6'.trans (hb7.mono hb6'.size); clear hb7)
        | (go_at_call 12; refine (spec_puttext u _ (by omega)).mono ?_; rintro e w8 ⟨rfl, hb8⟩; rw [← HP.out]; replace hb6' := hb6'.trans (hb8.mono hb6'.size); clear hb8))
      have hsz : (ByteArray.mk #[120] ++ P).size ≤ 9223372036854775807 := by rw [ByteArray.size_append, show (ByteArray.mk #[120]).size = 1 from rfl]; omega
      refine (impl_gettext _ 1 n1 b1 c1 _ (HG.out.below hb6') hsz (by omega) HT1).mono ?_
      rintro e w9 ⟨rfl, hb9⟩
      rw [HT2]
      unfold textOut
      have hb9' := hb6'.trans (hb9.mono hb6'.size)
      clear hsz hb6' hb9
      have HT3' := Lib.hid HT3
      have HT4' := Lib.hid HT4
      clear HT1 HT2 HT3 HT4
      go_wp2_with fail
      refine (impl_gettext _ 0 n2 b2 c2 _ (HG.out.below hb9') (extract_le P _ _ _ (by omega)) (by omega) HT3'.out).mono ?_
      rintro e w10 ⟨rfl, hb10⟩
      rw [HT4'.out]
      unfold textOut
      have hft : ∀ W : World, (Instr.field 31 (.agg #[.string ⟨#[]⟩, .int .i64 0, .int .i64 4]) 2).run Tryd.prog W = .ok (.int .i64 4) W := fun _ => by kernel_rfl
      go_wp2
      all_goals
        go_ret
        exact ⟨rfl, hb9'.trans (hb10.mono hb9'.size)⟩
end Go.Proofs.YtnejnhfdinmicaaDoor
