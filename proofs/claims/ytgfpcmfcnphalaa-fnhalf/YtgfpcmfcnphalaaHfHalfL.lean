/- FnHalf's walk. -/
import Derived.Test.YtgfpcmfcnphalaaHfLw
import Derived.Test.YtgfpcmfcnphalaaHfDraw4
namespace Go.Proofs.Ytgfpcmfcnphalaa
set_option linter.unusedSimpArgs false
set_option linter.unusedVariables false
open Go.RowKit Go.Joins

structure KH (w : World) (b5 b7 b8 b9 b10 B7 B10 : Nat) (h g : HfL) (x : SbL) (R Y : HoL) (p2 p4 : Option Addr) (k2 k4 : Nat) (W : World) : Prop where
  h5 : Arr W b5 24 (hfC h)
  o7 : OutH b7 B7 W R p2 k2
  h8 : Arr W b8 24 (hfC g)
  s9 : Arr W b9 32 [.int .i64 x.k, .int .i64 x.n]
  o10 : OutH b10 B10 W Y p4 k4
  bl : Below w.heap.size w W
theorem Arr.mono2 {W W2 : World} {b t : Nat} {cs : List Value} (h : Arr W b t cs) (hb : Below W.heap.size W W2) : Arr W2 b t cs := arr_belowH h hb
theorem KH.on {w : World} {b5 b7 b8 b9 b10 B7 B10 : Nat} {h g : HfL} {x : SbL} {R Y : HoL} {p2 p4 : Option Addr} {k2 k4 : Nat} {W W2 : World} (q : KH w b5 b7 b8 b9 b10 B7 B10 h g x R Y p2 p4 k2 k4 W) (hb : Below W.heap.size W W2) : KH w b5 b7 b8 b9 b10 B7 B10 h g x R Y p2 p4 k2 k4 W2 :=
  ⟨arr_belowH q.h5 hb, q.o7.on hb, arr_belowH q.h8 hb, arr_belowH q.s9 hb, q.o10.on hb, q.bl.trans (hb.mono q.bl.size)⟩
abbrev SH (w : World) (b5 b7 b8 b9 b10 B7 B10 : Nat) (h g : HfL) (x : SbL) (R Y : HoL) (p2 p4 : Option Addr) (k2 k4 : Nat) (W : World) : Prop := ((W.cell? ⟨b5, 0, none⟩ = some (.int .i64 h.n) ∧ W.cell? ⟨b5, 1, none⟩ = some (.int .i64 h.o) ∧ W.cell? ⟨b5, 2, none⟩ = some (.int .i64 h.t) ∧ W.cell? ⟨b5, 3, none⟩ = some (.int .i64 h.i) ∧ W.cell? ⟨b5, 4, none⟩ = some (.int .i64 h.f)) ∧ (W.cell? ⟨b7, 0, none⟩ = some (.int .i64 R.h.n) ∧ W.cell? ⟨b7, 1, none⟩ = some (.int .i64 R.h.o) ∧ W.cell? ⟨b7, 2, none⟩ = some (.int .i64 R.h.t) ∧ W.cell? ⟨b7, 3, none⟩ = some (.int .i64 R.h.i) ∧ W.cell? ⟨b7, 4, none⟩ = some (.int .i64 R.h.f) ∧ W.cell? ⟨b7, 5, none⟩ = some (.slice p2 R.s.length k2) ∧ W.cell? ⟨b7, 6, none⟩ = some (.int .i64 R.c)) ∧ (W.cell? ⟨b8, 0, none⟩ = some (.int .i64 g.n) ∧ W.cell? ⟨b8, 1, none⟩ = some (.int .i64 g.o) ∧ W.cell? ⟨b8, 2, none⟩ = some (.int .i64 g.t) ∧ W.cell? ⟨b8, 3, none⟩ = some (.int .i64 g.i) ∧ W.cell? ⟨b8, 4, none⟩ = some (.int .i64 g.f)) ∧ (W.cell? ⟨b9, 0, none⟩ = some (.int .i64 x.k) ∧ W.cell? ⟨b9, 1, none⟩ = some (.int .i64 x.n)) ∧ (W.cell? ⟨b10, 0, none⟩ = some (.int .i64 Y.h.n) ∧ W.cell? ⟨b10, 1, none⟩ = some (.int .i64 Y.h.o) ∧ W.cell? ⟨b10, 2, none⟩ = some (.int .i64 Y.h.t) ∧ W.cell? ⟨b10, 3, none⟩ = some (.int .i64 Y.h.i) ∧ W.cell? ⟨b10, 4, none⟩ = some (.int .i64 Y.h.f) ∧ W.cell? ⟨b10, 5, none⟩ = some (.slice p4 Y.s.length k4) ∧ W.cell? ⟨b10, 6, none⟩ = some (.int .i64 Y.c))) ∧ KH w b5 b7 b8 b9 b10 B7 B10 h g x R Y p2 p4 k2 k4 W
theorem sh_of {w : World} {b5 b7 b8 b9 b10 B7 B10 : Nat} {h g : HfL} {x : SbL} {R Y : HoL} {p2 p4 : Option Addr} {k2 k4 : Nat} {W : World} (q : KH w b5 b7 b8 b9 b10 B7 B10 h g x R Y p2 p4 k2 k4 W) : SH w b5 b7 b8 b9 b10 B7 B10 h g x R Y p2 p4 k2 k4 W := ⟨⟨(hf_cells q.h5).1, ho_cells q.o7.1, (hf_cells q.h8).1, sb_cells q.s9, ho_cells q.o10.1⟩, q⟩
theorem sh_on {w : World} {b5 b7 b8 b9 b10 B7 B10 : Nat} {h g : HfL} {x : SbL} {R Y : HoL} {p2 p4 : Option Addr} {k2 k4 : Nat} {W W2 : World} (q : SH w b5 b7 b8 b9 b10 B7 B10 h g x R Y p2 p4 k2 k4 W) (hb : Below W.heap.size W W2) : SH w b5 b7 b8 b9 b10 B7 B10 h g x R Y p2 p4 k2 k4 W2 := sh_of (q.2.on hb)
theorem sh_drew {w : World} {b5 b7 b8 b9 b10 B7 B10 : Nat} {h g : HfL} {x : SbL} {R Y : HoL} {p2 p4 : Option Addr} {k2 k4 : Nat} {W : World} (q : KH w b5 b7 b8 b9 b10 B7 B10 h g x R Y p2 p4 k2 k4 W) : SH w b5 b7 b8 b9 b10 B7 B10 h g x R Y p2 p4 k2 k4 W.drew := sh_of (q.on (Below.refl _ _).drew)
set_option maxRecDepth 100000 in
set_option maxHeartbeats 4000000 in
theorem fnhalf_law (w : World) (a0 : Option Addr) (len0 cap0 : Nat) (w0 : SrcRow w w.heap.size a0 len0) (a1 : Option Addr) (len1 cap1 : Nat) (w1 : SrcRow w w.heap.size a1 len1) :
    Calls Try.prog 3 #[.slice a0 len0 cap0, .slice a1 len1 cap1] w fun e w' => e = .returned (.bool true) ∧ Below w.heap.size w w' := by
  have hr0 := Lib.hid w0
  have hr1 := Lib.hid w1
  clear w0 w1
  by_cases hbig0 : 1048576 < len0
  · go_enter Try.func3, Try.ntmps3
    go_wp2
    go_ret
    exact ⟨rfl, Below.refl _ _⟩
  by_cases hbig1 : 1048576 < len1
  · go_enter Try.func3, Try.ntmps3
    go_wp2
    go_ret
    exact ⟨rfl, Below.refl _ _⟩
  go_enter Try.func3, Try.ntmps3
  go_wp2_with fail
  refine (draw_say a0 len0 cap0 _ (by omega) hr0.out).mono ?_
  rintro e w1 ⟨⟨h, kd, rfl⟩, hb1⟩
  have HB1 := Lib.hid hb1
  clear hb1
  obtain ⟨R, hR⟩ : ∃ R, sayR h kd = R := ⟨_, rfl⟩
  have i1 := fun W => impl_say h kd W
  have i1s := fun W => spec_say h kd W
  have HRL : Hid (R.s.length ≤ 1) := Lib.hid (by rw [← hR]; exact sayR_len h kd)
  have HRF := Lib.hid (say_fin h kd)
  rw [hR] at i1 i1s HRF
  unfold HoIs at i1 i1s
  clear hR
  have hz1 : w.heap.size ≤ w1.heap.size := HB1.out.size
  go_wp2_with (go_at_call 13; go_fit (i1 _); rintro e w2 ⟨⟨p2, k2, rfl, ho⟩, hb⟩; have HB2 := Lib.hid ((HB1.out.alloc hz1 (.cells (hfC h).toArray 24)).trans (hb.mono (Nat.le_trans hz1 (by simp)))); have H52 := Lib.hid (arr_belowH (Arr.fresh w1 24 (hfC h)) hb); have HO2 := Lib.hid ho; have hz2 : w1.heap.size < w2.heap.size := Nat.lt_of_lt_of_le (by simp) hb.size; clear hb ho)
  have HZ2 := Lib.hid (HB2.out.alloc HB2.out.size (.cells (hoC R.h p2 R.s.length k2 R.c).toArray 29))
  refine (draw_hear a1 len1 cap1 _ (by omega) (hr1.out.lift HZ2.out HZ2.out.size)).mono ?_
  rintro e w3 ⟨⟨g, x, rfl⟩, hb3⟩
  have HB3 := Lib.hid (HZ2.out.trans (hb3.mono HZ2.out.size))
  have H53 := Lib.hid (arr_belowH (arr_belowH H52.out ((Below.refl _ _).alloc (Nat.le_refl _) _)) hb3)
  have H73 := Lib.hid ((OutH.new HO2.out).on hb3)
  have hz3 : w2.heap.size < w3.heap.size := Nat.lt_of_lt_of_le (by simp) hb3.size
  clear hb3
  obtain ⟨Y, hY⟩ : ∃ Y, hearR g x = Y := ⟨_, rfl⟩
  have i2 := fun W => impl_hear g x W
  have i2s := fun W => spec_hear g x W
  have HYL : Hid (Y.s.length ≤ 1) := Lib.hid (by
    rw [← hY]
    rcases Decidable.em (g.ok ∧ 1 ≤ x.k ∧ x.k ≤ 4 ∧ 1 ≤ x.n ∧ x.n ≤ 1000000000) with e | e
    · rw [show hearR g x = ⟨hearH g x, [], 0⟩ from if_pos e]
      exact Nat.zero_le _
    · rw [show hearR g x = illH 1 from if_neg e]
      exact Nat.zero_le _)
  have HYF := Lib.hid (hear_fin g x)
  rw [hY] at i2 i2s HYF
  unfold HoIs at i2 i2s
  clear hY
  have i3 := fun W => impl_right g W
  have i3s := fun W => spec_right g W
  obtain ⟨ok, hok⟩ : ∃ b, decide g.ok = b := ⟨_, rfl⟩
  rw [hok] at i3 i3s
  clear hok i1
  have hb2 := bx2 w3 24 32 (hfC g) [.int .i64 x.k, .int .i64 x.n]
  go_wp2_with (go_at_call 15; go_fit (i2 _); rintro e w4 ⟨⟨p4, k4, rfl, ho⟩, hb⟩; have HK4 := Lib.hid (And.intro (hb2.on hb) (And.intro (H53.out.mono2 (hb2.on hb).1) (And.intro (H73.out.on (hb2.on hb).1) (HB3.out.trans ((hb2.on hb).1.mono HB3.out.size))))); have HO4 := Lib.hid ho; clear hb ho)
  have HK : Hid (KH w w1.heap.size w2.heap.size w3.heap.size (w3.heap.size + 1) w4.heap.size (w1.alloc (.cells (hfC h).toArray 24)).heap.size ((w3.alloc (.cells (hfC g).toArray 24)).alloc (.cells #[.int .i64 x.k, .int .i64 x.n] 32)).heap.size h g x R Y p2 p4 k2 k4 (w4.alloc (.cells (hoC Y.h p4 Y.s.length k4 Y.c).toArray 29))) := Lib.hid (by
    have hbn : Below w4.heap.size w4 (w4.alloc (.cells (hoC Y.h p4 Y.s.length k4 Y.c).toArray 29)) := (Below.refl _ _).alloc (Nat.le_refl _) _
    obtain ⟨q1, q2, q3, q4⟩ := HK4.out
    exact ⟨arr_belowH q2 hbn, q3.on hbn, arr_belowH (q1.2 0 (show 0 < 2 by decide)) hbn, arr_belowH (q1.2 1 (show 1 < 2 by decide)) hbn, OutH.new HO4.out, q4.trans (hbn.mono q4.size)⟩)
  have HK2 : Hid (KH w w1.heap.size w2.heap.size w3.heap.size (w3.heap.size + 1) w4.heap.size (w1.alloc (.cells (hfC h).toArray 24)).heap.size ((w3.alloc (.cells (hfC g).toArray 24)).alloc (.cells #[.int .i64 x.k, .int .i64 x.n] 32)).heap.size h g x R Y p2 p4 k2 k4 (w4.alloc (.cells #[.int .i64 Y.h.n, .int .i64 Y.h.o, .int .i64 Y.h.t, .int .i64 Y.h.i, .int .i64 Y.h.f, .slice p4 Y.s.length k4, .int .i64 Y.c] 29))) := HK
  clear HK HK4 HO4 H53 H73 HB3 HB2 HZ2 H52 HO2 HB1 hb2 i2 hz1 hz2 hz3 hr0 hr1
  generalize w4.alloc (.cells #[.int .i64 Y.h.n, .int .i64 Y.h.o, .int .i64 Y.h.t, .int .i64 Y.h.i, .int .i64 Y.h.f, .slice p4 Y.s.length k4, .int .i64 Y.c] 29) = W5 at HK2 ⊢
  generalize (w1.alloc (.cells (hfC h).toArray 24)).heap.size = B7 at HK2
  generalize ((w3.alloc (.cells (hfC g).toArray 24)).alloc (.cells #[.int .i64 x.k, .int .i64 x.n] 32)).heap.size = B10 at HK2
  generalize w3.heap.size + 1 = b9 at HK2 ⊢
  generalize w1.heap.size = b5 at HK2 ⊢
  generalize w2.heap.size = b7 at HK2 ⊢
  generalize w3.heap.size = b8 at HK2 ⊢
  generalize w4.heap.size = b10 at HK2 ⊢
  go_region_held3 (fun W => ((W.cell? ⟨b5, 0, none⟩ = some (.int .i64 h.n) ∧ W.cell? ⟨b5, 1, none⟩ = some (.int .i64 h.o) ∧ W.cell? ⟨b5, 2, none⟩ = some (.int .i64 h.t) ∧ W.cell? ⟨b5, 3, none⟩ = some (.int .i64 h.i) ∧ W.cell? ⟨b5, 4, none⟩ = some (.int .i64 h.f)) ∧ (W.cell? ⟨b7, 0, none⟩ = some (.int .i64 R.h.n) ∧ W.cell? ⟨b7, 1, none⟩ = some (.int .i64 R.h.o) ∧ W.cell? ⟨b7, 2, none⟩ = some (.int .i64 R.h.t) ∧ W.cell? ⟨b7, 3, none⟩ = some (.int .i64 R.h.i) ∧ W.cell? ⟨b7, 4, none⟩ = some (.int .i64 R.h.f) ∧ W.cell? ⟨b7, 5, none⟩ = some (.slice p2 R.s.length k2) ∧ W.cell? ⟨b7, 6, none⟩ = some (.int .i64 R.c)) ∧ (W.cell? ⟨b8, 0, none⟩ = some (.int .i64 g.n) ∧ W.cell? ⟨b8, 1, none⟩ = some (.int .i64 g.o) ∧ W.cell? ⟨b8, 2, none⟩ = some (.int .i64 g.t) ∧ W.cell? ⟨b8, 3, none⟩ = some (.int .i64 g.i) ∧ W.cell? ⟨b8, 4, none⟩ = some (.int .i64 g.f)) ∧ (W.cell? ⟨b9, 0, none⟩ = some (.int .i64 x.k) ∧ W.cell? ⟨b9, 1, none⟩ = some (.int .i64 x.n)) ∧ (W.cell? ⟨b10, 0, none⟩ = some (.int .i64 Y.h.n) ∧ W.cell? ⟨b10, 1, none⟩ = some (.int .i64 Y.h.o) ∧ W.cell? ⟨b10, 2, none⟩ = some (.int .i64 Y.h.t) ∧ W.cell? ⟨b10, 3, none⟩ = some (.int .i64 Y.h.i) ∧ W.cell? ⟨b10, 4, none⟩ = some (.int .i64 Y.h.f) ∧ W.cell? ⟨b10, 5, none⟩ = some (.slice p4 Y.s.length k4) ∧ W.cell? ⟨b10, 6, none⟩ = some (.int .i64 Y.c))) ∧ KH w b5 b7 b8 b9 b10 B7 B10 h g x R Y p2 p4 k2 k4 W)
    (with_reducible first | assumption | exact sh_drew HK2.out | exact sh_on (by assumption) hbN)
    (first
      | (go_at_call 16; have _ := HF3; go_fit (lw_half Y p4 pB k4 kB _ (by have := HYL.out; omega) (row_ownH HF3.out.2.o10.2) (row_ownH HOB.out)); rintro e wN ⟨rfl, hbN⟩; have HF4 := Lib.hid (sh_on HF3.out hbN))
      | (go_at_call 18; have _ := HF2; go_fit (i2s _); rintro e wN ⟨⟨pB, kB, rfl, hoB⟩, hbN⟩; have HF3 := Lib.hid (sh_on HF2.out hbN); have HOB := Lib.hid hoB)
      | (go_at_call 16; have _ := HF1; go_fit (lw_half R p2 pA k2 kA _ (by have := HRL.out; omega) (row_ownH HF1.out.2.o7.2) (row_ownH HOA.out)); rintro e wN ⟨rfl, hbN⟩; have HF2 := Lib.hid (sh_on HF1.out hbN))
      | (go_at_call 17; go_fit (i1s _); rintro e wN ⟨⟨pA, kA, rfl, hoA⟩, hbN⟩; have HF1 := Lib.hid (sh_on (sh_drew HK2.out) hbN); have HOA := Lib.hid hoA)
      | (go_at_call 20; have _ := HF5; go_fit (i3s _); rintro e wN ⟨rfl, hbN⟩; have HF6 := Lib.hid (sh_on HF5.out hbN))
      | (go_at_call 19; have _ := HF4; go_fit (i3 _); rintro e wN ⟨rfl, hbN⟩; have HF5 := Lib.hid (sh_on HF4.out hbN)))
  have HV := Lib.hid HF6.out.2
  clear HK2 HF1 HF2 HF3 HF4 HF5 HF6 HOA HOB hoA hoB i1s i2s i3 i3s HRL HYL
  rcases HRF.out with hc | ⟨h', m, rfl, hq, hm1, hn1⟩ <;> rcases HYF.out with hd | ⟨h'', rfl, hr, hn2⟩
  · have hc0 : (R.c == 0) = false := by simpa using hc
    obtain ⟨a0, a1, a2, a3, a4, a5, a6⟩ := ho_cells HV.out.o7.1
    have hd0 : (Y.c == 0) = false := by simpa using hd
    obtain ⟨e0, e1, e2, e3, e4, e5, e6⟩ := ho_cells HV.out.o10.1
    obtain ⟨⟨c0, c1, c2, c3, c4⟩, _⟩ := hf_cells HV.out.h5
    obtain ⟨⟨d0, d1, d2, d3, d4⟩, _⟩ := hf_cells HV.out.h8
    go_wp2
    go_ret
    exact ⟨rfl, HV.out.bl⟩
  · have hc0 : (R.c == 0) = false := by simpa using hc
    obtain ⟨a0, a1, a2, a3, a4, a5, a6⟩ := ho_cells HV.out.o7.1
    obtain ⟨n9, o9, t9, i9, f9⟩ := h''
    dsimp only at hn2
    subst hn2
    have o10 : Arr wN b10 29 (hoC ⟨g.n, o9, t9, i9, f9⟩ p4 0 k4 0) := HV.out.o10.1
    obtain ⟨e0, e1, e2, e3, e4, e5, e6⟩ := ho_cells o10
    have j2 := fun W => spec_right ⟨g.n, o9, t9, i9, f9⟩ W
    rw [decide_eq_true hr] at j2
    obtain ⟨⟨c0, c1, c2, c3, c4⟩, _⟩ := hf_cells HV.out.h5
    obtain ⟨⟨d0, d1, d2, d3, d4⟩, _⟩ := hf_cells HV.out.h8
    go_wp2_with (first
      | (go_at_call 20; have _ := HV; go_fit (j2 _); rintro e wB ⟨rfl, hbB⟩; have HVB := Lib.hid (HV.out.on hbB); have o10B : Arr wB b10 29 (hoC ⟨g.n, o9, t9, i9, f9⟩ p4 0 k4 0) := HVB.out.o10.1; clear e0 e1 e2 e3 e4 e5 e6 d0 d1 d2 d3 d4; obtain ⟨e0, e1, e2, e3, e4, e5, e6⟩ := ho_cells o10B; obtain ⟨⟨d0, d1, d2, d3, d4⟩, _⟩ := hf_cells HVB.out.h8))
    go_ret
    exact ⟨rfl, HVB.out.bl⟩
  · have o7 : Arr wN b7 29 (hoC h' p2 1 k2 0) := HV.out.o7.1
    obtain ⟨a0, a1, a2, a3, a4, a5, a6⟩ := ho_cells o7
    obtain ⟨gg, rfl, hgg, r0, r1⟩ := row2H (i := 0) (row_ownH HV.out.o7.2) (show 0 < 1 by decide)
    replace r0 : wN.cell? ⟨gg, 0, none⟩ = some (.int .i64 kd) := r0
    replace r1 : wN.cell? ⟨gg, 1, none⟩ = some (.int .i64 m) := r1
    have j1 := fun W => spec_right h' W
    rw [decide_eq_true hq] at j1
    have hd0 : (Y.c == 0) = false := by simpa using hd
    obtain ⟨e0, e1, e2, e3, e4, e5, e6⟩ := ho_cells HV.out.o10.1
    obtain ⟨⟨c0, c1, c2, c3, c4⟩, _⟩ := hf_cells HV.out.h5
    obtain ⟨⟨d0, d1, d2, d3, d4⟩, _⟩ := hf_cells HV.out.h8
    go_wp2_with (first
      | (go_at_call 20; go_fit (j1 _); rintro e wA ⟨rfl, hbA⟩; have HVA := Lib.hid (HV.out.on hbA); have o7A : Arr wA b7 29 (hoC h' (some ⟨gg, 0, none⟩) 1 k2 0) := HVA.out.o7.1; replace r0 := (hbA.cell (p := ⟨gg, 0, none⟩) hgg).trans r0; replace r1 := (hbA.cell (p := ⟨gg, 1, none⟩) hgg).trans r1; clear a0 a1 a2 a3 a4 a5 a6 e0 e1 e2 e3 e4 e5 e6 c0 c1 c2 c3 c4 d0 d1 d2 d3 d4; obtain ⟨a0, a1, a2, a3, a4, a5, a6⟩ := ho_cells o7A; obtain ⟨e0, e1, e2, e3, e4, e5, e6⟩ := ho_cells HVA.out.o10.1; obtain ⟨⟨c0, c1, c2, c3, c4⟩, _⟩ := hf_cells HVA.out.h5; obtain ⟨⟨d0, d1, d2, d3, d4⟩, _⟩ := hf_cells HVA.out.h8))
    go_ret
    exact ⟨rfl, HVA.out.bl⟩
  · have o7 : Arr wN b7 29 (hoC h' p2 1 k2 0) := HV.out.o7.1
    obtain ⟨a0, a1, a2, a3, a4, a5, a6⟩ := ho_cells o7
    obtain ⟨gg, rfl, hgg, r0, r1⟩ := row2H (i := 0) (row_ownH HV.out.o7.2) (show 0 < 1 by decide)
    replace r0 : wN.cell? ⟨gg, 0, none⟩ = some (.int .i64 kd) := r0
    replace r1 : wN.cell? ⟨gg, 1, none⟩ = some (.int .i64 m) := r1
    have j1 := fun W => spec_right h' W
    rw [decide_eq_true hq] at j1
    obtain ⟨n9, o9, t9, i9, f9⟩ := h''
    dsimp only at hn2
    subst hn2
    have o10 : Arr wN b10 29 (hoC ⟨g.n, o9, t9, i9, f9⟩ p4 0 k4 0) := HV.out.o10.1
    obtain ⟨e0, e1, e2, e3, e4, e5, e6⟩ := ho_cells o10
    have j2 := fun W => spec_right ⟨g.n, o9, t9, i9, f9⟩ W
    rw [decide_eq_true hr] at j2
    obtain ⟨⟨c0, c1, c2, c3, c4⟩, _⟩ := hf_cells HV.out.h5
    obtain ⟨⟨d0, d1, d2, d3, d4⟩, _⟩ := hf_cells HV.out.h8
    go_wp2_with (first
      | (go_at_call 20; go_fit (j1 _); rintro e wA ⟨rfl, hbA⟩; have HVA := Lib.hid (HV.out.on hbA); have o7A : Arr wA b7 29 (hoC h' (some ⟨gg, 0, none⟩) 1 k2 0) := HVA.out.o7.1; replace r0 := (hbA.cell (p := ⟨gg, 0, none⟩) hgg).trans r0; replace r1 := (hbA.cell (p := ⟨gg, 1, none⟩) hgg).trans r1; clear a0 a1 a2 a3 a4 a5 a6 e0 e1 e2 e3 e4 e5 e6 c0 c1 c2 c3 c4 d0 d1 d2 d3 d4; obtain ⟨a0, a1, a2, a3, a4, a5, a6⟩ := ho_cells o7A; have o10A : Arr wA b10 29 (hoC ⟨g.n, o9, t9, i9, f9⟩ p4 0 k4 0) := HVA.out.o10.1; obtain ⟨e0, e1, e2, e3, e4, e5, e6⟩ := ho_cells o10A; obtain ⟨⟨c0, c1, c2, c3, c4⟩, _⟩ := hf_cells HVA.out.h5; obtain ⟨⟨d0, d1, d2, d3, d4⟩, _⟩ := hf_cells HVA.out.h8)
      | (go_at_call 20; have _ := HVA; go_fit (j2 _); rintro e wB ⟨rfl, hbB⟩; have HVB := Lib.hid (HVA.out.on hbB); have o10B : Arr wB b10 29 (hoC ⟨g.n, o9, t9, i9, f9⟩ p4 0 k4 0) := HVB.out.o10.1; clear e0 e1 e2 e3 e4 e5 e6 d0 d1 d2 d3 d4; obtain ⟨e0, e1, e2, e3, e4, e5, e6⟩ := ho_cells o10B; obtain ⟨⟨d0, d1, d2, d3, d4⟩, _⟩ := hf_cells HVB.out.h8))
    go_ret
    exact ⟨rfl, HVB.out.bl⟩
end Go.Proofs.Ytgfpcmfcnphalaa
