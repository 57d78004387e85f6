/- FnShow's walk. -/
import Derived.Test.YtgfpcmfcnphalaaHfLw
import Derived.Test.YtgfpcmfcnphalaaHfDrop
import Derived.Test.YtgfpcmfcnphalaaHfName
import Derived.Test.YtgfpcmfcnphalaaHfDraw3
namespace Go.Proofs.Ytgfpcmfcnphalaa
set_option linter.unusedSimpArgs false
set_option linter.unusedVariables false
open Go.RowKit Go.Joins

structure KS (w : World) (b3 b4 B4 : Nat) (h : HfL) (R : HoL) (p2 : Option Addr) (k2 : Nat) (W : World) : Prop where
  h3 : Arr W b3 24 (hfC h)
  o4 : OutH b4 B4 W R p2 k2
  bl : Below w.heap.size w W
theorem KS.on {w : World} {b3 b4 B4 : Nat} {h : HfL} {R : HoL} {p2 : Option Addr} {k2 : Nat} {W W2 : World} (q : KS w b3 b4 B4 h R p2 k2 W) (hb : Below W.heap.size W W2) : KS w b3 b4 B4 h R p2 k2 W2 := ⟨arr_belowH q.h3 hb, q.o4.on hb, q.bl.trans (hb.mono q.bl.size)⟩
abbrev SS (w : World) (b3 b4 B4 : Nat) (h : HfL) (R : HoL) (p2 : Option Addr) (k2 : Nat) (W : World) : Prop := ((W.cell? ⟨b3, 0, none⟩ = some (.int .i64 h.n) ∧ W.cell? ⟨b3, 1, none⟩ = some (.int .i64 h.o) ∧ W.cell? ⟨b3, 2, none⟩ = some (.int .i64 h.t) ∧ W.cell? ⟨b3, 3, none⟩ = some (.int .i64 h.i) ∧ W.cell? ⟨b3, 4, none⟩ = some (.int .i64 h.f)) ∧ (W.cell? ⟨b4, 0, none⟩ = some (.int .i64 R.h.n) ∧ W.cell? ⟨b4, 1, none⟩ = some (.int .i64 R.h.o) ∧ W.cell? ⟨b4, 2, none⟩ = some (.int .i64 R.h.t) ∧ W.cell? ⟨b4, 3, none⟩ = some (.int .i64 R.h.i) ∧ W.cell? ⟨b4, 4, none⟩ = some (.int .i64 R.h.f) ∧ W.cell? ⟨b4, 5, none⟩ = some (.slice p2 R.s.length k2) ∧ W.cell? ⟨b4, 6, none⟩ = some (.int .i64 R.c))) ∧ KS w b3 b4 B4 h R p2 k2 W
theorem ss_of {w : World} {b3 b4 B4 : Nat} {h : HfL} {R : HoL} {p2 : Option Addr} {k2 : Nat} {W : World} (q : KS w b3 b4 B4 h R p2 k2 W) : SS w b3 b4 B4 h R p2 k2 W := ⟨⟨(hf_cells q.h3).1, ho_cells q.o4.1⟩, q⟩
theorem ss_on {w : World} {b3 b4 B4 : Nat} {h : HfL} {R : HoL} {p2 : Option Addr} {k2 : Nat} {W W2 : World} (q : SS w b3 b4 B4 h R p2 k2 W) (hb : Below W.heap.size W W2) : SS w b3 b4 B4 h R p2 k2 W2 := ss_of (q.2.on hb)
theorem ss_drew {w : World} {b3 b4 B4 : Nat} {h : HfL} {R : HoL} {p2 : Option Addr} {k2 : Nat} {W : World} (q : KS w b3 b4 B4 h R p2 k2 W) : SS w b3 b4 B4 h R p2 k2 W.drew := ss_of (q.on (Below.refl _ _).drew)
/-- A row of subs is no box of a half. -/
theorem own_neF {w : World} {B b : Nat} {v : Value} {xs : List SbL} {cs : List Value} (h : OwnC sbC w B 32 2 v xs) (hA : Arr w b 24 cs) : ∀ g, v.ownBlock = some g → b ≠ g := by
  intro g hg e
  subst e
  rcases h.2 with ⟨h0, _⟩ | ⟨g', cap, cur, h1, h2, h3, h4⟩
  · rw [h0] at hg; cases hg
  · rw [h1] at hg
    injection hg with hg
    have hg : g' = b := hg
    subst hg
    unfold Arr at hA
    rw [h3] at hA
    injection hA with hA
    injection hA with _ hA
    cases hA
/-- The other half's box is written. -/
theorem KS.write {w : World} {b3 b4 B4 : Nat} {h : HfL} {R : HoL} {p2 : Option Addr} {k2 : Nat} {W : World} {b5 : Nat} {cs : List Value} (q : KS w b3 b4 B4 h R p2 k2 W) (h5 : Arr W b5 24 cs) (hne : b3 ≠ b5) (hw : w.heap.size ≤ b5) (ds : Array Value) : KS w b3 b4 B4 h R p2 k2 (W.setRow b5 ds) := by
  have hne2 := own_neF q.o4.2 h5
  refine ⟨(setRow_other W b5 b3 ds hne).trans q.h3, ⟨(setRow_other W b5 b4 ds (fun e => ?_)).trans q.o4.1, q.o4.2.1, ?_⟩, below_setRow q.bl hw ds⟩
  · subst e
    have h1 := q.o4.1
    unfold Arr at h1 h5
    rw [h5] at h1
    injection h1 with h1
    injection h1 with _ h1
    cases h1
  · rcases q.o4.2.2 with h0 | ⟨g2, cap, cur, h1, h2, h3, h4⟩
    · exact .inl h0
    · exact .inr ⟨g2, cap, cur, h1, h2, (setRow_other W b5 g2 ds (fun e => hne2 g2 (by rw [h1]; rfl) e.symm)).trans h3, h4⟩
/-- The other half, when it has heard the first ones. -/
def othH (h : HfL) (S : List SbL) (i : Nat) : HfL := (S.take i).foldl (fun a x => (hearR a x).h) ⟨1000000000, h.i, h.f, h.o, h.t⟩
theorem oth_succ (h : HfL) (S : List SbL) (i : Nat) (hi : i < S.length) : othH h S (i + 1) = (hearR (othH h S i) S[i]).h := by
  unfold othH
  rw [List.take_succ_eq_append_getElem hi, List.foldl_append]
  rfl
theorem oth_last {h : HfL} (q : h.ok) : othH h (dropS h) (dropS h).length = ⟨1000000000, 0, 0, 0, 0⟩ := by
  obtain ⟨n, o, t, i, f⟩ := h
  obtain ⟨q0, q1, q2, q3, q4, q5, q6, q7, q8, q9, q10, q11⟩ := q
  dsimp only at q0 q1 q2 q3 q4 q5 q6 q7 q8 q9 q10 q11
  have ok1 : HfL.ok ⟨1000000000, i, f, o, t⟩ := by unfold HfL.ok; dsimp only; omega
  have ok2 : HfL.ok ⟨1000000000, i, f, 0, 0⟩ := by unfold HfL.ok; dsimp only; omega
  have hl : ∀ (a b : Int), HfL.ok ⟨1000000000, i, f, o, t⟩ → o + t ≠ 0 → (hearR ⟨1000000000, i, f, o, t⟩ ⟨3, o + t⟩).h = ⟨1000000000, i, f, 0, 0⟩ := fun _ _ k1 hz => by
    rw [hearR_in k1 (by rw [Bool.and_eq_true]; exact ⟨rfl, isN_iff.2 ⟨by omega, by omega⟩⟩), hear3 k1 (by omega)]
    exact if_pos rfl
  have hd : ∀ (a b : Int), HfL.ok ⟨1000000000, i, f, a, b⟩ → i + f ≠ 0 → (hearR ⟨1000000000, i, f, a, b⟩ ⟨4, i + f⟩).h = ⟨1000000000, 0, 0, a, b⟩ := fun a b k1 hz => by
    rw [hearR_in k1 (by rw [Bool.and_eq_true]; exact ⟨rfl, isN_iff.2 ⟨by omega, by omega⟩⟩), hear4 k1 (by omega)]
    exact if_pos rfl
  unfold othH dropS
  rw [List.take_length]
  dsimp only
  by_cases z1 : o + t = 0
  · obtain rfl : o = 0 := by omega
    obtain rfl : t = 0 := by omega
    rw [if_pos z1]
    by_cases z2 : i + f = 0
    · obtain rfl : i = 0 := by omega
      obtain rfl : f = 0 := by omega
      rw [if_pos z2]
      rfl
    · rw [if_neg z2]
      exact hd 0 0 ok2 z2
  · rw [if_neg z1]
    by_cases z2 : i + f = 0
    · obtain rfl : i = 0 := by omega
      obtain rfl : f = 0 := by omega
      rw [if_pos z2]
      exact hl 0 0 ok1 z1
    · rw [if_neg z2]
      show (hearR (hearR ⟨1000000000, i, f, o, t⟩ ⟨3, o + t⟩).h ⟨4, i + f⟩).h = _
      rw [hl 0 0 ok1 z1]
      exact hd 0 0 ok2 z2
theorem name_none (n : Int) (h0 : 0 ≤ n) (h1 : n ≤ 1000000000) : nameH ⟨n, 0, 0, 0, 0⟩ = sNone := by
  have q : HfL.ok ⟨n, 0, 0, 0, 0⟩ := by unfold HfL.ok; dsimp only; omega
  unfold nameH showH
  simp [q]
theorem show_both {h : HfL} (q : h.ok) : showH h = if h.t ≠ 0 ∧ h.f ≠ 0 then sBoth else if h.t ≠ 0 then sTo else if h.f ≠ 0 then sFrom else sNone := if_pos q
set_option maxRecDepth 100000 in
set_option maxHeartbeats 4000000 in
theorem fnshow_law (w : World) (a0 : Option Addr) (len0 cap0 : Nat) (w0 : SrcRow w w.heap.size a0 len0) :
    Calls Try.prog 5 #[.slice a0 len0 cap0] w fun e w' => e = .returned (.bool true) ∧ Below w.heap.size w w' := by
  have hr0 := Lib.hid w0
  clear w0
  by_cases hbig0 : 1048576 < len0
  · go_enter Try.func5, Try.ntmps5
    go_wp2
    go_ret
    exact ⟨rfl, Below.refl _ _⟩
  go_enter Try.func5, Try.ntmps5
  go_wp2_with fail
  refine (draw_drop a0 len0 cap0 _ (by omega) hr0.out).mono ?_
  rintro e w1 ⟨⟨h, rfl⟩, hb1⟩
  have HB1 := Lib.hid hb1
  have hz1 : w.heap.size ≤ w1.heap.size := hb1.size
  clear hb1
  obtain ⟨R, hR⟩ : ∃ R, dropR h = R := ⟨_, rfl⟩
  have i1 := fun W => impl_drop h W
  have i1s := fun W => spec_drop h W
  have HRL : Hid (R.s.length ≤ 2) := Lib.hid (by rw [← hR]; exact dropR_len h)
  have HR := Lib.hid hR
  rw [hR] at i1 i1s
  unfold HoIs at i1 i1s
  clear hR
  have i2 := fun W => impl_show h W
  have i2s := fun W => spec_show h W
  have i3 := fun W => impl_name h W
  have i3s := fun W => spec_name h W
  obtain ⟨sh, hsh⟩ : ∃ s, showH h = s := ⟨_, rfl⟩
  have HSH := Lib.hid hsh
  obtain ⟨nm, hnm⟩ : ∃ s, nameH h = s := ⟨_, rfl⟩
  rw [hsh] at i2 i2s
  rw [hnm] at i3 i3s
  clear hsh hnm
  go_wp2_with (go_at_call 24; go_fit (i1 _); rintro e w2 ⟨⟨p2, k2, rfl, ho⟩, hb⟩; have HK2 := Lib.hid (And.intro (arr_belowH (Arr.fresh w1 24 (hfC h)) hb) ((HB1.out.alloc hz1 (.cells (hfC h).toArray 24)).trans (hb.mono (Nat.le_trans hz1 (by simp))))); have HO2 := Lib.hid ho; clear hb ho)
  have HV : Hid (KS w w1.heap.size w2.heap.size (w1.alloc (.cells (hfC h).toArray 24)).heap.size h R p2 k2 (w2.alloc (.cells #[.int .i64 R.h.n, .int .i64 R.h.o, .int .i64 R.h.t, .int .i64 R.h.i, .int .i64 R.h.f, .slice p2 R.s.length k2, .int .i64 R.c] 29))) := Lib.hid (by
    have hbn : Below w2.heap.size w2 (w2.alloc (.cells (hoC R.h p2 R.s.length k2 R.c).toArray 29)) := (Below.refl _ _).alloc (Nat.le_refl _) _
    obtain ⟨q1, q2⟩ := HK2.out
    exact ⟨arr_belowH q1 hbn, OutH.new HO2.out, q2.trans (hbn.mono q2.size)⟩)
  clear HK2 HO2 HB1 i1 hr0 hz1
  generalize w2.alloc (.cells #[.int .i64 R.h.n, .int .i64 R.h.o, .int .i64 R.h.t, .int .i64 R.h.i, .int .i64 R.h.f, .slice p2 R.s.length k2, .int .i64 R.c] 29) = W5 at HV ⊢
  generalize (w1.alloc (.cells (hfC h).toArray 24)).heap.size = B4 at HV
  generalize w1.heap.size = b3 at HV ⊢
  generalize w2.heap.size = b4 at HV ⊢
  by_cases q : h.ok
  · have hRe : R = ⟨⟨h.n, 0, 0, 0, 0⟩, dropS h, 0⟩ := HR.out.symm.trans (if_pos q)
    have hRc : (R.c != 0) = false := by rw [hRe]; rfl
    have HRE := Lib.hid hRe
    have HQ := Lib.hid q
    clear hRe q
    go_region_held3 (fun W => ((W.cell? ⟨b3, 0, none⟩ = some (.int .i64 h.n) ∧ W.cell? ⟨b3, 1, none⟩ = some (.int .i64 h.o) ∧ W.cell? ⟨b3, 2, none⟩ = some (.int .i64 h.t) ∧ W.cell? ⟨b3, 3, none⟩ = some (.int .i64 h.i) ∧ W.cell? ⟨b3, 4, none⟩ = some (.int .i64 h.f)) ∧ (W.cell? ⟨b4, 0, none⟩ = some (.int .i64 R.h.n) ∧ W.cell? ⟨b4, 1, none⟩ = some (.int .i64 R.h.o) ∧ W.cell? ⟨b4, 2, none⟩ = some (.int .i64 R.h.t) ∧ W.cell? ⟨b4, 3, none⟩ = some (.int .i64 R.h.i) ∧ W.cell? ⟨b4, 4, none⟩ = some (.int .i64 R.h.f) ∧ W.cell? ⟨b4, 5, none⟩ = some (.slice p2 R.s.length k2) ∧ W.cell? ⟨b4, 6, none⟩ = some (.int .i64 R.c))) ∧ KS w b3 b4 B4 h R p2 k2 W)
      (with_reducible first | assumption | exact ss_drew HV.out | exact ss_on (by assumption) hbN)
      (first
        | (go_at_call 16; go_fit (lw_half R p2 pA k2 kA _ (by have := HRL.out; omega) (row_ownH HF1.out.2.o4.2) (row_ownH HOA.out)); rintro e wN ⟨rfl, hbN⟩; have HF2 := Lib.hid (ss_on HF1.out hbN))
        | (go_at_call 25; go_fit (i1s _); rintro e wN ⟨⟨pA, kA, rfl, hoA⟩, hbN⟩; have HF1 := Lib.hid (ss_on (ss_drew HV.out) hbN); have HOA := Lib.hid hoA)
        | (go_at_call 26; go_fit (i2 _); rintro e wN ⟨rfl, hbN⟩; have HF3 := Lib.hid (ss_on HF2.out hbN))
        | (go_at_call 27; go_fit (i2s _); rintro e wN ⟨rfl, hbN⟩; have HF4 := Lib.hid (ss_on HF3.out hbN))
        | (go_at_call 28; go_fit (i3 _); rintro e wN ⟨rfl, hbN⟩; have HF5 := Lib.hid (ss_on HF4.out hbN))
        | (go_at_call 29; go_fit (i3s _); rintro e wN ⟨rfl, hbN⟩; have HF6 := Lib.hid (ss_on HF5.out hbN)))
    have HW := Lib.hid HF6.out.2
    clear HV HF1 HF2 HF3 HF4 HF5 HF6 HOA hoA hRc
    have hRe := HRE.out
    have q := HQ.out
    have hRs : R.s = dropS h := by rw [hRe]
    have hRh : R.h = ⟨h.n, 0, 0, 0, 0⟩ := by rw [hRe]
    have HE := Lib.hid (And.intro hRs hRh)
    have i4 := fun W => impl_name R.h W
    have hnn : nameH R.h = ⟨#[110, 111, 110, 101]⟩ := by rw [hRh]; exact name_none h.n q.1 q.2.1
    rw [hnn] at i4
    have i5 := fun W => impl_name ⟨1000000000, 0, 0, 0, 0⟩ W
    rw [show nameH ⟨1000000000, 0, 0, 0, 0⟩ = ⟨#[110, 111, 110, 101]⟩ from name_none _ (by decide) (by decide)] at i5
    clear hRe HRE hRs hRh hnn q i1s i2s i3s i3 HR
    obtain ⟨a0, a1, a2, a3, a4, a5, a6⟩ := ho_cells HW.out.o4.1
    obtain ⟨⟨c0, c1, c2, c3, c4⟩, _⟩ := hf_cells HW.out.h3
    have hzb : b3 < wN.heap.size := arr_ltH HW.out.h3
    have hzw : w.heap.size ≤ wN.heap.size := HW.out.bl.size
    go_wp2_with fail
    have HK0 : Hid (KS w b3 b4 B4 h R p2 k2 (wN.alloc (.cells #[.int .i64 1000000000, .int .i64 h.i, .int .i64 h.f, .int .i64 h.o, .int .i64 h.t] 24))) := Lib.hid (HW.out.on ((Below.refl _ _).alloc (Nat.le_refl _) _))
    have HA0 : Hid (Arr (wN.alloc (.cells #[.int .i64 1000000000, .int .i64 h.i, .int .i64 h.f, .int .i64 h.o, .int .i64 h.t] 24)) wN.heap.size 24 (hfC (othH h R.s 0))) := Lib.hid (Arr.fresh wN _ (hfC (othH h R.s 0)))
    clear a0 a1 a2 a3 a4 a5 a6 c0 c1 c2 c3 c4
    go_loopw [6] (fun iq wr => ∃ i : Nat, i ≤ R.s.length ∧ iq = .int .i64 i ∧ KS w b3 b4 B4 h R p2 k2 wr ∧ Arr wr wN.heap.size 24 (hfC (othH h R.s i))) (fun i _ => R.s.length - (intOf i).toNat)
    case atStart => exact ⟨0, Nat.zero_le _, rfl, HK0.out, HA0.out⟩
    case round =>
      clear HK0 HA0
      obtain ⟨i, hi, rfl, hk, hA⟩ := hrel
      have HKr := Lib.hid hk
      have HAr := Lib.hid hA
      obtain ⟨a0, a1, a2, a3, a4, a5, a6⟩ := ho_cells hk.o4.1
      have hrlen := HRL.out
      by_cases hlt : i < R.s.length
      · obtain ⟨gg, rfl, hgg, r0, r1⟩ := row2H (row_ownH hk.o4.2) hlt
        obtain ⟨x, hx⟩ : ∃ x, R.s[i] = x := ⟨_, rfl⟩
        obtain ⟨oh, hoh⟩ : ∃ o, othH h R.s i = o := ⟨_, rfl⟩
        have HN := Lib.hid ((oth_succ h R.s i hlt).trans (by rw [hoh, hx]))
        have HX := Lib.hid hx
        rw [hoh] at HAr
        clear hk hA r0 r1 hoh
        go_wp2_with fail
        have hd0 := HKr.out.on (Below.refl _ _).drew
        have hA0 : Arr wr.drew wN.heap.size 24 (hfC oh) := HAr.out
        refine wp_region_held_drew (S := fun W => OutH b4 B4 W R (some ⟨gg, 0, none⟩) k2) (by kernel_rfl) hd0.o4 (fun hHeld => ?_)
        generalize wr.drew = Wd at hHeld hd0 hA0 ⊢
        refine takeQ (i := 1) (k := 73) (v := .pointer (some ⟨b4, 5, none⟩)) rfl (by rfl) (by kernel_rfl) (by kernel_rfl) (by kernel_rfl) (fun _ _ _ h => h) (by rfl) ?_ hHeld ?_
        · intro w1 hSw; go_simp
        (try simp only [Act.put, List.setIfInBounds_toArray, List.set_cons_zero, List.set_cons_succ])
        refine takeQ (i := 2) (k := 74) (v := .slice (some ⟨gg, 0, none⟩) R.s.length k2) rfl (by rfl) (by kernel_rfl) (by kernel_rfl) (by kernel_rfl) (fun _ _ _ h => h) (by rfl) ?_ hHeld ?_
        · intro w1 hSw; obtain ⟨m0, m1, m2, m3, m4, m5, m6⟩ := ho_cells hSw.1; go_simp
        (try simp only [Act.put, List.setIfInBounds_toArray, List.set_cons_zero, List.set_cons_succ])
        refine takeQ (i := 3) (k := 75) (v := .int .i64 (i : Int)) rfl (by rfl) (by kernel_rfl) (by kernel_rfl) (by kernel_rfl) (fun _ _ _ h => h) (by rfl) ?_ hHeld ?_
        · intro w1 hSw; go_simp
        (try simp only [Act.put, List.setIfInBounds_toArray, List.set_cons_zero, List.set_cons_succ])
        refine takeQ (i := 4) (k := 76) (v := .pointer (some ⟨gg, i * 2, none⟩)) rfl (by rfl) (by kernel_rfl) (by kernel_rfl) (by kernel_rfl) (fun _ _ _ h => h) (by rfl) ?_ hHeld ?_
        · intro w1 hSw; go_simp
        (try simp only [Act.put, List.setIfInBounds_toArray, List.set_cons_zero, List.set_cons_succ])
        refine takeQ (i := 5) (k := 77) (v := sbL x) rfl (by rfl) (by kernel_rfl) (by kernel_rfl) (by kernel_rfl) (fun _ _ _ h => h) (by rfl) ?_ hHeld ?_
        · intro w1 hSw; have m0 := OwnC.cell sbC_len hSw.2 i 0 hlt (by decide)
          have m1 := OwnC.cell sbC_len hSw.2 i 1 hlt (by decide)
          rw [HX.out] at m0 m1
          replace m0 : w1.cell? ⟨gg, i * 2, none⟩ = some (.int .i64 x.k) := m0
          replace m1 : w1.cell? ⟨gg, i * 2 + 1, none⟩ = some (.int .i64 x.n) := m1
          go_simp
        (try simp only [Act.put, List.setIfInBounds_toArray, List.set_cons_zero, List.set_cons_succ])
        obtain ⟨⟨c0, c1, c2, c3, c4⟩, _⟩ := hf_cells hA0
        refine wpAnyH_ready (rs := [0]) (by kernel_rfl) (by simp) ?_
        refine AllReadyH.cons rfl (fun K hK => ?_) AllReadyH.nil
        rw [if_pos (by rfl)]
        go_simp
        refine hK.out _ _ (hHeld) (fun hHeld => ?_)
        clear hK K
        (try simp only [Act.put, List.setIfInBounds_toArray, List.set_cons_zero, List.set_cons_succ])
        clear c0 c1 c2 c3 c4
        refine wpAnyH_ready (rs := [6]) (by kernel_rfl) (by simp) ?_
        refine AllReadyH.cons rfl (fun K hK => ?_) AllReadyH.nil
        rw [if_pos (by rfl)]
        go_simp
        go_fit (impl_hear oh x _)
        rintro e W6 ⟨⟨p6, k6, rfl, hv⟩, hb6⟩
        replace hd0 := hd0.on hb6
        replace hA0 := arr_belowH hA0 hb6
        refine hK.out _ _ (hd0.o4) (fun hHeld => ?_)
        clear hK K
        (try simp only [Act.put, List.setIfInBounds_toArray, List.set_cons_zero, List.set_cons_succ])
        refine takeQ (i := 7) (k := 79) (v := hfL (hearR oh x).h) rfl (by rfl) (by kernel_rfl) (by kernel_rfl) (by kernel_rfl) (fun _ _ _ h => h) (by rfl) ?_ hHeld ?_
        · intro w1 hSw; first | kernel_rfl | (go_simp; rfl)
        (try simp only [Act.put, List.setIfInBounds_toArray, List.set_cons_zero, List.set_cons_succ])
        refine wpAnyH_ready (rs := [8]) (by kernel_rfl) (by simp) ?_
        refine AllReadyH.cons rfl (fun K hK => ?_) AllReadyH.nil
        rw [if_pos (by rfl)]
        refine wp_store_row 24 _ _ rfl wN.heap.size _ rfl rfl 24 _ hA0 (by kernel_rfl) (by rfl) (by kernel_rfl) ?_
        have hF := hd0.write hA0 (by omega) hzw (hfC (hearR oh x).h).toArray
        have hA5 : Arr (W6.setRow wN.heap.size (hfC (hearR oh x).h).toArray) wN.heap.size 24 (hfC (hearR oh x).h) := setRow_heap W6 wN.heap.size _ _ _ _ hA0
        refine hK.out _ _ (hF.o4) (fun hHeld => ?_)
        clear hK K
        (try simp only [Act.put, List.setIfInBounds_toArray, List.set_cons_zero, List.set_cons_succ])
        refine wpAnyH_done (by kernel_rfl) ?_ _
        go_wp2
        exact ⟨⟨i + 1, by omega, by go_num, hF, by rw [HN.out]; exact hA5⟩, by simp [intOf]; omega⟩
      · obtain rfl : i = R.s.length := by omega
        have hlast : othH h R.s R.s.length = ⟨1000000000, 0, 0, 0, 0⟩ := by rw [HE.out.1]; exact oth_last HQ.out
        rw [hlast] at HAr
        clear hk hA hlast
        have hsb := show_both HQ.out
        rw [HSH.out] at hsb
        go_wp2_with fail
        by_cases ht0 : h.t = 0 <;> by_cases hf0 : h.f = 0
        · obtain rfl : sh = ⟨#[110, 111, 110, 101]⟩ := by
            rw [hsb]
            simp [ht0, hf0, sBoth, sTo, sFrom, sNone]
          have HT := Lib.hid ht0
          have HFF := Lib.hid hf0
          clear ht0 hf0 hsb
          have ht : (h.t != 0) = false := by simpa using HT.out
          have hf : (h.f != 0) = false := by simpa using HFF.out
          refine wp_region_held_drew (S := fun W => KS w b3 b4 B4 h R p2 k2 W ∧ Arr W wN.heap.size 24 (hfC ⟨1000000000, 0, 0, 0, 0⟩)) (by kernel_rfl) ⟨HKr.out.on (Below.refl _ _).drew, HAr.out⟩ (fun hHeld => ?_)
          generalize wr.drew = Wd at hHeld ⊢
          refine takeQ (i := 0) (k := 80) (v := .pointer (some ⟨b4, 0, none⟩)) rfl (by rfl) (by kernel_rfl) (by kernel_rfl) (by kernel_rfl) (fun _ _ _ h => h) (by rfl) ?_ hHeld ?_
          · intro w1 hSw; go_simp
          (try simp only [Act.put, List.setIfInBounds_toArray, List.set_cons_zero, List.set_cons_succ])
          refine takeQ (i := 1) (k := 81) (v := hfL R.h) rfl (by rfl) (by kernel_rfl) (by kernel_rfl) (by kernel_rfl) (fun _ _ _ h => h) (by rfl) ?_ hHeld ?_
          · intro w1 hSw; obtain ⟨m0, m1, m2, m3, m4, m5, m6⟩ := ho_cells hSw.1.o4.1; go_simp
          (try simp only [Act.put, List.setIfInBounds_toArray, List.set_cons_zero, List.set_cons_succ])
          refine wpAnyH_ready (rs := [2]) (by kernel_rfl) (by simp) ?_
          refine AllReadyH.cons rfl (fun K hK => ?_) AllReadyH.nil
          rw [if_pos (by rfl)]
          go_simp
          go_fit (i4 _)
          rintro e wn ⟨rfl, hbn⟩
          refine hK.out _ _ (⟨hHeld.1.on hbn, arr_belowH hHeld.2 hbn⟩) (fun hHeld => ?_)
          clear hK K
          (try simp only [Act.put, List.setIfInBounds_toArray, List.set_cons_zero, List.set_cons_succ])
          refine takeQ (i := 3) (k := 83) (v := .bool true) rfl (by rfl) (by kernel_rfl) (by kernel_rfl) (by kernel_rfl) (fun _ _ _ h => h) (by rfl) ?_ hHeld ?_
          · intro w1 hSw; go_simp
          (try simp only [Act.put, List.setIfInBounds_toArray, List.set_cons_zero, List.set_cons_succ])
          refine takeQ (i := 4) (k := 84) (v := .bool true) rfl (by rfl) (by kernel_rfl) (by kernel_rfl) (by kernel_rfl) (fun _ _ _ h => h) (by rfl) ?_ hHeld ?_
          · intro w1 hSw; go_simp
          (try simp only [Act.put, List.setIfInBounds_toArray, List.set_cons_zero, List.set_cons_succ])
          refine takeQ (i := 5) (k := 85) (v := hfL ⟨1000000000, 0, 0, 0, 0⟩) rfl (by rfl) (by kernel_rfl) (by kernel_rfl) (by kernel_rfl) (fun _ _ _ h => h) (by rfl) ?_ hHeld ?_
          · intro w1 hSw; obtain ⟨⟨m0, m1, m2, m3, m4⟩, _⟩ := hf_cells (h := ⟨1000000000, 0, 0, 0, 0⟩) hSw.2; go_simp
          (try simp only [Act.put, List.setIfInBounds_toArray, List.set_cons_zero, List.set_cons_succ])
          refine wpAnyH_ready (rs := [6]) (by kernel_rfl) (by simp) ?_
          refine AllReadyH.cons rfl (fun K hK => ?_) AllReadyH.nil
          rw [if_pos (by rfl)]
          go_simp
          go_fit (i5 _)
          rintro e wn ⟨rfl, hbn⟩
          refine hK.out _ _ (⟨hHeld.1.on hbn, arr_belowH hHeld.2 hbn⟩) (fun hHeld => ?_)
          clear hK K
          (try simp only [Act.put, List.setIfInBounds_toArray, List.set_cons_zero, List.set_cons_succ])
          refine takeQ (i := 7) (k := 87) (v := .bool true) rfl (by rfl) (by kernel_rfl) (by kernel_rfl) (by kernel_rfl) (fun _ _ _ h => h) (by rfl) ?_ hHeld ?_
          · intro w1 hSw; go_simp
          (try simp only [Act.put, List.setIfInBounds_toArray, List.set_cons_zero, List.set_cons_succ])
          refine takeQ (i := 8) (k := 88) (v := .bool true) rfl (by rfl) (by kernel_rfl) (by kernel_rfl) (by kernel_rfl) (fun _ _ _ h => h) (by rfl) ?_ hHeld ?_
          · intro w1 hSw; go_simp
          (try simp only [Act.put, List.setIfInBounds_toArray, List.set_cons_zero, List.set_cons_succ])
          refine takeQ (i := 9) (k := 89) (v := .bool true) rfl (by rfl) (by kernel_rfl) (by kernel_rfl) (by kernel_rfl) (fun _ _ _ h => h) (by rfl) ?_ hHeld ?_
          · intro w1 hSw; go_simp
          (try simp only [Act.put, List.setIfInBounds_toArray, List.set_cons_zero, List.set_cons_succ])
          refine takeQ (i := 10) (k := 90) (v := hfL h) rfl (by rfl) (by kernel_rfl) (by kernel_rfl) (by kernel_rfl) (fun _ _ _ h => h) (by rfl) ?_ hHeld ?_
          · intro w1 hSw; obtain ⟨⟨m0, m1, m2, m3, m4⟩, _⟩ := hf_cells hSw.1.h3; go_simp
          (try simp only [Act.put, List.setIfInBounds_toArray, List.set_cons_zero, List.set_cons_succ])
          refine takeQ (i := 13) (k := 93) (v := .pointer (some ⟨b3, 2, none⟩)) rfl (by rfl) (by kernel_rfl) (by kernel_rfl) (by kernel_rfl) (fun _ _ _ h => h) (by rfl) ?_ hHeld ?_
          · intro w1 hSw; go_simp
          (try simp only [Act.put, List.setIfInBounds_toArray, List.set_cons_zero, List.set_cons_succ])
          refine takeQ (i := 14) (k := 94) (v := .int .i64 h.t) rfl (by rfl) (by kernel_rfl) (by kernel_rfl) (by kernel_rfl) (fun _ _ _ h => h) (by rfl) ?_ hHeld ?_
          · intro w1 hSw; obtain ⟨⟨m0, m1, m2, m3, m4⟩, _⟩ := hf_cells hSw.1.h3; go_simp
          (try simp only [Act.put, List.setIfInBounds_toArray, List.set_cons_zero, List.set_cons_succ])
          refine takeQ (i := 15) (k := 95) (v := .bool false) rfl (by rfl) (by kernel_rfl) (by kernel_rfl) (by kernel_rfl) (fun _ _ _ h => h) (by rfl) ?_ hHeld ?_
          · intro w1 hSw; go_simp
          (try simp only [Act.put, List.setIfInBounds_toArray, List.set_cons_zero, List.set_cons_succ])
          refine wpAnyH_ready (rs := [11]) (by kernel_rfl) (by simp) ?_
          refine AllReadyH.cons rfl (fun K hK => ?_) AllReadyH.nil
          rw [if_pos (by rfl)]
          go_simp
          go_fit (i2 _)
          rintro e wn ⟨rfl, hbn⟩
          refine hK.out _ _ (⟨hHeld.1.on hbn, arr_belowH hHeld.2 hbn⟩) (fun hHeld => ?_)
          clear hK K
          (try simp only [Act.put, List.setIfInBounds_toArray, List.set_cons_zero, List.set_cons_succ])
          refine takeQ (i := 12) (k := 92) (v := .bool false) rfl (by rfl) (by kernel_rfl) (by kernel_rfl) (by kernel_rfl) (fun _ _ _ h => h) (by rfl) ?_ hHeld ?_
          · intro w1 hSw; go_simp
          (try simp only [Act.put, List.setIfInBounds_toArray, List.set_cons_zero, List.set_cons_succ])
          refine takeQ (i := 16) (k := 96) (v := .bool false) rfl (by rfl) (by kernel_rfl) (by kernel_rfl) (by kernel_rfl) (fun _ _ _ h => h) (by rfl) ?_ hHeld ?_
          · intro w1 hSw; go_simp
          (try simp only [Act.put, List.setIfInBounds_toArray, List.set_cons_zero, List.set_cons_succ])
          refine skipQ (i := 17) (k := 97) rfl (by rfl) (by kernel_rfl) (by kernel_rfl) (by kernel_rfl) (fun _ _ _ h => h) (by rfl) hHeld ?_
          (try simp only [Act.put, List.setIfInBounds_toArray, List.set_cons_zero, List.set_cons_succ])
          refine skipQ (i := 18) (k := 98) rfl (by rfl) (by kernel_rfl) (by kernel_rfl) (by kernel_rfl) (fun _ _ _ h => h) (by rfl) hHeld ?_
          (try simp only [Act.put, List.setIfInBounds_toArray, List.set_cons_zero, List.set_cons_succ])
          refine skipQ (i := 19) (k := 99) rfl (by rfl) (by kernel_rfl) (by kernel_rfl) (by kernel_rfl) (fun _ _ _ h => h) (by rfl) hHeld ?_
          (try simp only [Act.put, List.setIfInBounds_toArray, List.set_cons_zero, List.set_cons_succ])
          refine takeQ (i := 20) (k := 100) (v := .bool false) rfl (by rfl) (by kernel_rfl) (by kernel_rfl) (by kernel_rfl) (fun _ _ _ h => h) (by rfl) ?_ hHeld ?_
          · intro w1 hSw; go_simp
          (try simp only [Act.put, List.setIfInBounds_toArray, List.set_cons_zero, List.set_cons_succ])
          refine takeQ (i := 21) (k := 101) (v := .bool true) rfl (by rfl) (by kernel_rfl) (by kernel_rfl) (by kernel_rfl) (fun _ _ _ h => h) (by rfl) ?_ hHeld ?_
          · intro w1 hSw; go_simp
          (try simp only [Act.put, List.setIfInBounds_toArray, List.set_cons_zero, List.set_cons_succ])
          refine takeQ (i := 22) (k := 102) (v := .bool true) rfl (by rfl) (by kernel_rfl) (by kernel_rfl) (by kernel_rfl) (fun _ _ _ h => h) (by rfl) ?_ hHeld ?_
          · intro w1 hSw; go_simp
          (try simp only [Act.put, List.setIfInBounds_toArray, List.set_cons_zero, List.set_cons_succ])
          refine takeQ (i := 23) (k := 2) (v := .bool true) rfl (by rfl) (by kernel_rfl) (by kernel_rfl) (by kernel_rfl) (fun _ _ _ h => h) (by rfl) ?_ hHeld ?_
          · intro w1 hSw; go_simp
          (try simp only [Act.put, List.setIfInBounds_toArray, List.set_cons_zero, List.set_cons_succ])
          refine wpAnyH_done (by kernel_rfl) ?_ _
          go_wp2
          go_ret
          exact ⟨rfl, hHeld.1.bl⟩
        · obtain rfl : sh = ⟨#[102, 114, 111, 109]⟩ := by
            rw [hsb]
            simp [ht0, hf0, sBoth, sTo, sFrom, sNone]
          have HT := Lib.hid ht0
          have HFF := Lib.hid hf0
          clear ht0 hf0 hsb
          have ht : (h.t != 0) = false := by simpa using HT.out
          have hf : (h.f != 0) = true := by simpa using HFF.out
          refine wp_region_held_drew (S := fun W => KS w b3 b4 B4 h R p2 k2 W ∧ Arr W wN.heap.size 24 (hfC ⟨1000000000, 0, 0, 0, 0⟩)) (by kernel_rfl) ⟨HKr.out.on (Below.refl _ _).drew, HAr.out⟩ (fun hHeld => ?_)
          generalize wr.drew = Wd at hHeld ⊢
          refine takeQ (i := 0) (k := 80) (v := .pointer (some ⟨b4, 0, none⟩)) rfl (by rfl) (by kernel_rfl) (by kernel_rfl) (by kernel_rfl) (fun _ _ _ h => h) (by rfl) ?_ hHeld ?_
          · intro w1 hSw; go_simp
          (try simp only [Act.put, List.setIfInBounds_toArray, List.set_cons_zero, List.set_cons_succ])
          refine takeQ (i := 1) (k := 81) (v := hfL R.h) rfl (by rfl) (by kernel_rfl) (by kernel_rfl) (by kernel_rfl) (fun _ _ _ h => h) (by rfl) ?_ hHeld ?_
          · intro w1 hSw; obtain ⟨m0, m1, m2, m3, m4, m5, m6⟩ := ho_cells hSw.1.o4.1; go_simp
          (try simp only [Act.put, List.setIfInBounds_toArray, List.set_cons_zero, List.set_cons_succ])
          refine wpAnyH_ready (rs := [2]) (by kernel_rfl) (by simp) ?_
          refine AllReadyH.cons rfl (fun K hK => ?_) AllReadyH.nil
          rw [if_pos (by rfl)]
          go_simp
          go_fit (i4 _)
          rintro e wn ⟨rfl, hbn⟩
          refine hK.out _ _ (⟨hHeld.1.on hbn, arr_belowH hHeld.2 hbn⟩) (fun hHeld => ?_)
          clear hK K
          (try simp only [Act.put, List.setIfInBounds_toArray, List.set_cons_zero, List.set_cons_succ])
          refine takeQ (i := 3) (k := 83) (v := .bool true) rfl (by rfl) (by kernel_rfl) (by kernel_rfl) (by kernel_rfl) (fun _ _ _ h => h) (by rfl) ?_ hHeld ?_
          · intro w1 hSw; go_simp
          (try simp only [Act.put, List.setIfInBounds_toArray, List.set_cons_zero, List.set_cons_succ])
          refine takeQ (i := 4) (k := 84) (v := .bool true) rfl (by rfl) (by kernel_rfl) (by kernel_rfl) (by kernel_rfl) (fun _ _ _ h => h) (by rfl) ?_ hHeld ?_
          · intro w1 hSw; go_simp
          (try simp only [Act.put, List.setIfInBounds_toArray, List.set_cons_zero, List.set_cons_succ])
          refine takeQ (i := 5) (k := 85) (v := hfL ⟨1000000000, 0, 0, 0, 0⟩) rfl (by rfl) (by kernel_rfl) (by kernel_rfl) (by kernel_rfl) (fun _ _ _ h => h) (by rfl) ?_ hHeld ?_
          · intro w1 hSw; obtain ⟨⟨m0, m1, m2, m3, m4⟩, _⟩ := hf_cells (h := ⟨1000000000, 0, 0, 0, 0⟩) hSw.2; go_simp
          (try simp only [Act.put, List.setIfInBounds_toArray, List.set_cons_zero, List.set_cons_succ])
          refine wpAnyH_ready (rs := [6]) (by kernel_rfl) (by simp) ?_
          refine AllReadyH.cons rfl (fun K hK => ?_) AllReadyH.nil
          rw [if_pos (by rfl)]
          go_simp
          go_fit (i5 _)
          rintro e wn ⟨rfl, hbn⟩
          refine hK.out _ _ (⟨hHeld.1.on hbn, arr_belowH hHeld.2 hbn⟩) (fun hHeld => ?_)
          clear hK K
          (try simp only [Act.put, List.setIfInBounds_toArray, List.set_cons_zero, List.set_cons_succ])
          refine takeQ (i := 7) (k := 87) (v := .bool true) rfl (by rfl) (by kernel_rfl) (by kernel_rfl) (by kernel_rfl) (fun _ _ _ h => h) (by rfl) ?_ hHeld ?_
          · intro w1 hSw; go_simp
          (try simp only [Act.put, List.setIfInBounds_toArray, List.set_cons_zero, List.set_cons_succ])
          refine takeQ (i := 8) (k := 88) (v := .bool true) rfl (by rfl) (by kernel_rfl) (by kernel_rfl) (by kernel_rfl) (fun _ _ _ h => h) (by rfl) ?_ hHeld ?_
          · intro w1 hSw; go_simp
          (try simp only [Act.put, List.setIfInBounds_toArray, List.set_cons_zero, List.set_cons_succ])
          refine takeQ (i := 9) (k := 89) (v := .bool true) rfl (by rfl) (by kernel_rfl) (by kernel_rfl) (by kernel_rfl) (fun _ _ _ h => h) (by rfl) ?_ hHeld ?_
          · intro w1 hSw; go_simp
          (try simp only [Act.put, List.setIfInBounds_toArray, List.set_cons_zero, List.set_cons_succ])
          refine takeQ (i := 10) (k := 90) (v := hfL h) rfl (by rfl) (by kernel_rfl) (by kernel_rfl) (by kernel_rfl) (fun _ _ _ h => h) (by rfl) ?_ hHeld ?_
          · intro w1 hSw; obtain ⟨⟨m0, m1, m2, m3, m4⟩, _⟩ := hf_cells hSw.1.h3; go_simp
          (try simp only [Act.put, List.setIfInBounds_toArray, List.set_cons_zero, List.set_cons_succ])
          refine takeQ (i := 13) (k := 93) (v := .pointer (some ⟨b3, 2, none⟩)) rfl (by rfl) (by kernel_rfl) (by kernel_rfl) (by kernel_rfl) (fun _ _ _ h => h) (by rfl) ?_ hHeld ?_
          · intro w1 hSw; go_simp
          (try simp only [Act.put, List.setIfInBounds_toArray, List.set_cons_zero, List.set_cons_succ])
          refine takeQ (i := 14) (k := 94) (v := .int .i64 h.t) rfl (by rfl) (by kernel_rfl) (by kernel_rfl) (by kernel_rfl) (fun _ _ _ h => h) (by rfl) ?_ hHeld ?_
          · intro w1 hSw; obtain ⟨⟨m0, m1, m2, m3, m4⟩, _⟩ := hf_cells hSw.1.h3; go_simp
          (try simp only [Act.put, List.setIfInBounds_toArray, List.set_cons_zero, List.set_cons_succ])
          refine takeQ (i := 15) (k := 95) (v := .bool false) rfl (by rfl) (by kernel_rfl) (by kernel_rfl) (by kernel_rfl) (fun _ _ _ h => h) (by rfl) ?_ hHeld ?_
          · intro w1 hSw; go_simp
          (try simp only [Act.put, List.setIfInBounds_toArray, List.set_cons_zero, List.set_cons_succ])
          refine wpAnyH_ready (rs := [11]) (by kernel_rfl) (by simp) ?_
          refine AllReadyH.cons rfl (fun K hK => ?_) AllReadyH.nil
          rw [if_pos (by rfl)]
          go_simp
          go_fit (i2 _)
          rintro e wn ⟨rfl, hbn⟩
          refine hK.out _ _ (⟨hHeld.1.on hbn, arr_belowH hHeld.2 hbn⟩) (fun hHeld => ?_)
          clear hK K
          (try simp only [Act.put, List.setIfInBounds_toArray, List.set_cons_zero, List.set_cons_succ])
          refine takeQ (i := 12) (k := 92) (v := .bool false) rfl (by rfl) (by kernel_rfl) (by kernel_rfl) (by kernel_rfl) (fun _ _ _ h => h) (by rfl) ?_ hHeld ?_
          · intro w1 hSw; go_simp
          (try simp only [Act.put, List.setIfInBounds_toArray, List.set_cons_zero, List.set_cons_succ])
          refine takeQ (i := 16) (k := 96) (v := .bool false) rfl (by rfl) (by kernel_rfl) (by kernel_rfl) (by kernel_rfl) (fun _ _ _ h => h) (by rfl) ?_ hHeld ?_
          · intro w1 hSw; go_simp
          (try simp only [Act.put, List.setIfInBounds_toArray, List.set_cons_zero, List.set_cons_succ])
          refine skipQ (i := 17) (k := 97) rfl (by rfl) (by kernel_rfl) (by kernel_rfl) (by kernel_rfl) (fun _ _ _ h => h) (by rfl) hHeld ?_
          (try simp only [Act.put, List.setIfInBounds_toArray, List.set_cons_zero, List.set_cons_succ])
          refine skipQ (i := 18) (k := 98) rfl (by rfl) (by kernel_rfl) (by kernel_rfl) (by kernel_rfl) (fun _ _ _ h => h) (by rfl) hHeld ?_
          (try simp only [Act.put, List.setIfInBounds_toArray, List.set_cons_zero, List.set_cons_succ])
          refine skipQ (i := 19) (k := 99) rfl (by rfl) (by kernel_rfl) (by kernel_rfl) (by kernel_rfl) (fun _ _ _ h => h) (by rfl) hHeld ?_
          (try simp only [Act.put, List.setIfInBounds_toArray, List.set_cons_zero, List.set_cons_succ])
          refine takeQ (i := 20) (k := 100) (v := .bool false) rfl (by rfl) (by kernel_rfl) (by kernel_rfl) (by kernel_rfl) (fun _ _ _ h => h) (by rfl) ?_ hHeld ?_
          · intro w1 hSw; go_simp
          (try simp only [Act.put, List.setIfInBounds_toArray, List.set_cons_zero, List.set_cons_succ])
          refine takeQ (i := 21) (k := 101) (v := .bool true) rfl (by rfl) (by kernel_rfl) (by kernel_rfl) (by kernel_rfl) (fun _ _ _ h => h) (by rfl) ?_ hHeld ?_
          · intro w1 hSw; go_simp
          (try simp only [Act.put, List.setIfInBounds_toArray, List.set_cons_zero, List.set_cons_succ])
          refine takeQ (i := 22) (k := 102) (v := .bool true) rfl (by rfl) (by kernel_rfl) (by kernel_rfl) (by kernel_rfl) (fun _ _ _ h => h) (by rfl) ?_ hHeld ?_
          · intro w1 hSw; go_simp
          (try simp only [Act.put, List.setIfInBounds_toArray, List.set_cons_zero, List.set_cons_succ])
          refine takeQ (i := 23) (k := 2) (v := .bool true) rfl (by rfl) (by kernel_rfl) (by kernel_rfl) (by kernel_rfl) (fun _ _ _ h => h) (by rfl) ?_ hHeld ?_
          · intro w1 hSw; go_simp
          (try simp only [Act.put, List.setIfInBounds_toArray, List.set_cons_zero, List.set_cons_succ])
          refine wpAnyH_done (by kernel_rfl) ?_ _
          go_wp2
          go_ret
          exact ⟨rfl, hHeld.1.bl⟩
        · obtain rfl : sh = ⟨#[116, 111]⟩ := by
            rw [hsb]
            simp [ht0, hf0, sBoth, sTo, sFrom, sNone]
          have HT := Lib.hid ht0
          have HFF := Lib.hid hf0
          clear ht0 hf0 hsb
          have ht : (h.t != 0) = true := by simpa using HT.out
          have hf : (h.f != 0) = false := by simpa using HFF.out
          refine wp_region_held_drew (S := fun W => KS w b3 b4 B4 h R p2 k2 W ∧ Arr W wN.heap.size 24 (hfC ⟨1000000000, 0, 0, 0, 0⟩)) (by kernel_rfl) ⟨HKr.out.on (Below.refl _ _).drew, HAr.out⟩ (fun hHeld => ?_)
          generalize wr.drew = Wd at hHeld ⊢
          refine takeQ (i := 0) (k := 80) (v := .pointer (some ⟨b4, 0, none⟩)) rfl (by rfl) (by kernel_rfl) (by kernel_rfl) (by kernel_rfl) (fun _ _ _ h => h) (by rfl) ?_ hHeld ?_
          · intro w1 hSw; go_simp
          (try simp only [Act.put, List.setIfInBounds_toArray, List.set_cons_zero, List.set_cons_succ])
          refine takeQ (i := 1) (k := 81) (v := hfL R.h) rfl (by rfl) (by kernel_rfl) (by kernel_rfl) (by kernel_rfl) (fun _ _ _ h => h) (by rfl) ?_ hHeld ?_
          · intro w1 hSw; obtain ⟨m0, m1, m2, m3, m4, m5, m6⟩ := ho_cells hSw.1.o4.1; go_simp
          (try simp only [Act.put, List.setIfInBounds_toArray, List.set_cons_zero, List.set_cons_succ])
          refine wpAnyH_ready (rs := [2]) (by kernel_rfl) (by simp) ?_
          refine AllReadyH.cons rfl (fun K hK => ?_) AllReadyH.nil
          rw [if_pos (by rfl)]
          go_simp
          go_fit (i4 _)
          rintro e wn ⟨rfl, hbn⟩
          refine hK.out _ _ (⟨hHeld.1.on hbn, arr_belowH hHeld.2 hbn⟩) (fun hHeld => ?_)
          clear hK K
          (try simp only [Act.put, List.setIfInBounds_toArray, List.set_cons_zero, List.set_cons_succ])
          refine takeQ (i := 3) (k := 83) (v := .bool true) rfl (by rfl) (by kernel_rfl) (by kernel_rfl) (by kernel_rfl) (fun _ _ _ h => h) (by rfl) ?_ hHeld ?_
          · intro w1 hSw; go_simp
          (try simp only [Act.put, List.setIfInBounds_toArray, List.set_cons_zero, List.set_cons_succ])
          refine takeQ (i := 4) (k := 84) (v := .bool true) rfl (by rfl) (by kernel_rfl) (by kernel_rfl) (by kernel_rfl) (fun _ _ _ h => h) (by rfl) ?_ hHeld ?_
          · intro w1 hSw; go_simp
          (try simp only [Act.put, List.setIfInBounds_toArray, List.set_cons_zero, List.set_cons_succ])
          refine takeQ (i := 5) (k := 85) (v := hfL ⟨1000000000, 0, 0, 0, 0⟩) rfl (by rfl) (by kernel_rfl) (by kernel_rfl) (by kernel_rfl) (fun _ _ _ h => h) (by rfl) ?_ hHeld ?_
          · intro w1 hSw; obtain ⟨⟨m0, m1, m2, m3, m4⟩, _⟩ := hf_cells (h := ⟨1000000000, 0, 0, 0, 0⟩) hSw.2; go_simp
          (try simp only [Act.put, List.setIfInBounds_toArray, List.set_cons_zero, List.set_cons_succ])
          refine wpAnyH_ready (rs := [6]) (by kernel_rfl) (by simp) ?_
          refine AllReadyH.cons rfl (fun K hK => ?_) AllReadyH.nil
          rw [if_pos (by rfl)]
          go_simp
          go_fit (i5 _)
          rintro e wn ⟨rfl, hbn⟩
          refine hK.out _ _ (⟨hHeld.1.on hbn, arr_belowH hHeld.2 hbn⟩) (fun hHeld => ?_)
          clear hK K
          (try simp only [Act.put, List.setIfInBounds_toArray, List.set_cons_zero, List.set_cons_succ])
          refine takeQ (i := 7) (k := 87) (v := .bool true) rfl (by rfl) (by kernel_rfl) (by kernel_rfl) (by kernel_rfl) (fun _ _ _ h => h) (by rfl) ?_ hHeld ?_
          · intro w1 hSw; go_simp
          (try simp only [Act.put, List.setIfInBounds_toArray, List.set_cons_zero, List.set_cons_succ])
          refine takeQ (i := 8) (k := 88) (v := .bool true) rfl (by rfl) (by kernel_rfl) (by kernel_rfl) (by kernel_rfl) (fun _ _ _ h => h) (by rfl) ?_ hHeld ?_
          · intro w1 hSw; go_simp
          (try simp only [Act.put, List.setIfInBounds_toArray, List.set_cons_zero, List.set_cons_succ])
          refine takeQ (i := 9) (k := 89) (v := .bool true) rfl (by rfl) (by kernel_rfl) (by kernel_rfl) (by kernel_rfl) (fun _ _ _ h => h) (by rfl) ?_ hHeld ?_
          · intro w1 hSw; go_simp
          (try simp only [Act.put, List.setIfInBounds_toArray, List.set_cons_zero, List.set_cons_succ])
          refine takeQ (i := 10) (k := 90) (v := hfL h) rfl (by rfl) (by kernel_rfl) (by kernel_rfl) (by kernel_rfl) (fun _ _ _ h => h) (by rfl) ?_ hHeld ?_
          · intro w1 hSw; obtain ⟨⟨m0, m1, m2, m3, m4⟩, _⟩ := hf_cells hSw.1.h3; go_simp
          (try simp only [Act.put, List.setIfInBounds_toArray, List.set_cons_zero, List.set_cons_succ])
          refine takeQ (i := 13) (k := 93) (v := .pointer (some ⟨b3, 2, none⟩)) rfl (by rfl) (by kernel_rfl) (by kernel_rfl) (by kernel_rfl) (fun _ _ _ h => h) (by rfl) ?_ hHeld ?_
          · intro w1 hSw; go_simp
          (try simp only [Act.put, List.setIfInBounds_toArray, List.set_cons_zero, List.set_cons_succ])
          refine takeQ (i := 14) (k := 94) (v := .int .i64 h.t) rfl (by rfl) (by kernel_rfl) (by kernel_rfl) (by kernel_rfl) (fun _ _ _ h => h) (by rfl) ?_ hHeld ?_
          · intro w1 hSw; obtain ⟨⟨m0, m1, m2, m3, m4⟩, _⟩ := hf_cells hSw.1.h3; go_simp
          (try simp only [Act.put, List.setIfInBounds_toArray, List.set_cons_zero, List.set_cons_succ])
          refine takeQ (i := 15) (k := 95) (v := .bool true) rfl (by rfl) (by kernel_rfl) (by kernel_rfl) (by kernel_rfl) (fun _ _ _ h => h) (by rfl) ?_ hHeld ?_
          · intro w1 hSw; go_simp
          (try simp only [Act.put, List.setIfInBounds_toArray, List.set_cons_zero, List.set_cons_succ])
          refine wpAnyH_ready (rs := [11]) (by kernel_rfl) (by simp) ?_
          refine AllReadyH.cons rfl (fun K hK => ?_) AllReadyH.nil
          rw [if_pos (by rfl)]
          go_simp
          go_fit (i2 _)
          rintro e wn ⟨rfl, hbn⟩
          refine hK.out _ _ (⟨hHeld.1.on hbn, arr_belowH hHeld.2 hbn⟩) (fun hHeld => ?_)
          clear hK K
          (try simp only [Act.put, List.setIfInBounds_toArray, List.set_cons_zero, List.set_cons_succ])
          refine takeQ (i := 12) (k := 92) (v := .bool false) rfl (by rfl) (by kernel_rfl) (by kernel_rfl) (by kernel_rfl) (fun _ _ _ h => h) (by rfl) ?_ hHeld ?_
          · intro w1 hSw; go_simp
          (try simp only [Act.put, List.setIfInBounds_toArray, List.set_cons_zero, List.set_cons_succ])
          refine takeQ (i := 16) (k := 96) (v := .bool true) rfl (by rfl) (by kernel_rfl) (by kernel_rfl) (by kernel_rfl) (fun _ _ _ h => h) (by rfl) ?_ hHeld ?_
          · intro w1 hSw; go_simp
          (try simp only [Act.put, List.setIfInBounds_toArray, List.set_cons_zero, List.set_cons_succ])
          refine takeQ (i := 17) (k := 97) (v := .pointer (some ⟨b3, 4, none⟩)) rfl (by rfl) (by kernel_rfl) (by kernel_rfl) (by kernel_rfl) (fun _ _ _ h => h) (by rfl) ?_ hHeld ?_
          · intro w1 hSw; go_simp
          (try simp only [Act.put, List.setIfInBounds_toArray, List.set_cons_zero, List.set_cons_succ])
          refine takeQ (i := 18) (k := 98) (v := .int .i64 h.f) rfl (by rfl) (by kernel_rfl) (by kernel_rfl) (by kernel_rfl) (fun _ _ _ h => h) (by rfl) ?_ hHeld ?_
          · intro w1 hSw; obtain ⟨⟨m0, m1, m2, m3, m4⟩, _⟩ := hf_cells hSw.1.h3; go_simp
          (try simp only [Act.put, List.setIfInBounds_toArray, List.set_cons_zero, List.set_cons_succ])
          refine takeQ (i := 19) (k := 99) (v := .bool false) rfl (by rfl) (by kernel_rfl) (by kernel_rfl) (by kernel_rfl) (fun _ _ _ h => h) (by rfl) ?_ hHeld ?_
          · intro w1 hSw; go_simp
          (try simp only [Act.put, List.setIfInBounds_toArray, List.set_cons_zero, List.set_cons_succ])
          refine takeQ (i := 20) (k := 100) (v := .bool false) rfl (by rfl) (by kernel_rfl) (by kernel_rfl) (by kernel_rfl) (fun _ _ _ h => h) (by rfl) ?_ hHeld ?_
          · intro w1 hSw; go_simp
          (try simp only [Act.put, List.setIfInBounds_toArray, List.set_cons_zero, List.set_cons_succ])
          refine takeQ (i := 21) (k := 101) (v := .bool true) rfl (by rfl) (by kernel_rfl) (by kernel_rfl) (by kernel_rfl) (fun _ _ _ h => h) (by rfl) ?_ hHeld ?_
          · intro w1 hSw; go_simp
          (try simp only [Act.put, List.setIfInBounds_toArray, List.set_cons_zero, List.set_cons_succ])
          refine takeQ (i := 22) (k := 102) (v := .bool true) rfl (by rfl) (by kernel_rfl) (by kernel_rfl) (by kernel_rfl) (fun _ _ _ h => h) (by rfl) ?_ hHeld ?_
          · intro w1 hSw; go_simp
          (try simp only [Act.put, List.setIfInBounds_toArray, List.set_cons_zero, List.set_cons_succ])
          refine takeQ (i := 23) (k := 2) (v := .bool true) rfl (by rfl) (by kernel_rfl) (by kernel_rfl) (by kernel_rfl) (fun _ _ _ h => h) (by rfl) ?_ hHeld ?_
          · intro w1 hSw; go_simp
          (try simp only [Act.put, List.setIfInBounds_toArray, List.set_cons_zero, List.set_cons_succ])
          refine wpAnyH_done (by kernel_rfl) ?_ _
          go_wp2
          go_ret
          exact ⟨rfl, hHeld.1.bl⟩
        · obtain rfl : sh = ⟨#[98, 111, 116, 104]⟩ := by
            rw [hsb]
            simp [ht0, hf0, sBoth, sTo, sFrom, sNone]
          have HT := Lib.hid ht0
          have HFF := Lib.hid hf0
          clear ht0 hf0 hsb
          have ht : (h.t != 0) = true := by simpa using HT.out
          have hf : (h.f != 0) = true := by simpa using HFF.out
          refine wp_region_held_drew (S := fun W => KS w b3 b4 B4 h R p2 k2 W ∧ Arr W wN.heap.size 24 (hfC ⟨1000000000, 0, 0, 0, 0⟩)) (by kernel_rfl) ⟨HKr.out.on (Below.refl _ _).drew, HAr.out⟩ (fun hHeld => ?_)
          generalize wr.drew = Wd at hHeld ⊢
          refine takeQ (i := 0) (k := 80) (v := .pointer (some ⟨b4, 0, none⟩)) rfl (by rfl) (by kernel_rfl) (by kernel_rfl) (by kernel_rfl) (fun _ _ _ h => h) (by rfl) ?_ hHeld ?_
          · intro w1 hSw; go_simp
          (try simp only [Act.put, List.setIfInBounds_toArray, List.set_cons_zero, List.set_cons_succ])
          refine takeQ (i := 1) (k := 81) (v := hfL R.h) rfl (by rfl) (by kernel_rfl) (by kernel_rfl) (by kernel_rfl) (fun _ _ _ h => h) (by rfl) ?_ hHeld ?_
          · intro w1 hSw; obtain ⟨m0, m1, m2, m3, m4, m5, m6⟩ := ho_cells hSw.1.o4.1; go_simp
          (try simp only [Act.put, List.setIfInBounds_toArray, List.set_cons_zero, List.set_cons_succ])
          refine wpAnyH_ready (rs := [2]) (by kernel_rfl) (by simp) ?_
          refine AllReadyH.cons rfl (fun K hK => ?_) AllReadyH.nil
          rw [if_pos (by rfl)]
          go_simp
          go_fit (i4 _)
          rintro e wn ⟨rfl, hbn⟩
          refine hK.out _ _ (⟨hHeld.1.on hbn, arr_belowH hHeld.2 hbn⟩) (fun hHeld => ?_)
          clear hK K
          (try simp only [Act.put, List.setIfInBounds_toArray, List.set_cons_zero, List.set_cons_succ])
          refine takeQ (i := 3) (k := 83) (v := .bool true) rfl (by rfl) (by kernel_rfl) (by kernel_rfl) (by kernel_rfl) (fun _ _ _ h => h) (by rfl) ?_ hHeld ?_
          · intro w1 hSw; go_simp
          (try simp only [Act.put, List.setIfInBounds_toArray, List.set_cons_zero, List.set_cons_succ])
          refine takeQ (i := 4) (k := 84) (v := .bool true) rfl (by rfl) (by kernel_rfl) (by kernel_rfl) (by kernel_rfl) (fun _ _ _ h => h) (by rfl) ?_ hHeld ?_
          · intro w1 hSw; go_simp
          (try simp only [Act.put, List.setIfInBounds_toArray, List.set_cons_zero, List.set_cons_succ])
          refine takeQ (i := 5) (k := 85) (v := hfL ⟨1000000000, 0, 0, 0, 0⟩) rfl (by rfl) (by kernel_rfl) (by kernel_rfl) (by kernel_rfl) (fun _ _ _ h => h) (by rfl) ?_ hHeld ?_
          · intro w1 hSw; obtain ⟨⟨m0, m1, m2, m3, m4⟩, _⟩ := hf_cells (h := ⟨1000000000, 0, 0, 0, 0⟩) hSw.2; go_simp
          (try simp only [Act.put, List.setIfInBounds_toArray, List.set_cons_zero, List.set_cons_succ])
          refine wpAnyH_ready (rs := [6]) (by kernel_rfl) (by simp) ?_
          refine AllReadyH.cons rfl (fun K hK => ?_) AllReadyH.nil
          rw [if_pos (by rfl)]
          go_simp
          go_fit (i5 _)
          rintro e wn ⟨rfl, hbn⟩
          refine hK.out _ _ (⟨hHeld.1.on hbn, arr_belowH hHeld.2 hbn⟩) (fun hHeld => ?_)
          clear hK K
          (try simp only [Act.put, List.setIfInBounds_toArray, List.set_cons_zero, List.set_cons_succ])
          refine takeQ (i := 7) (k := 87) (v := .bool true) rfl (by rfl) (by kernel_rfl) (by kernel_rfl) (by kernel_rfl) (fun _ _ _ h => h) (by rfl) ?_ hHeld ?_
          · intro w1 hSw; go_simp
          (try simp only [Act.put, List.setIfInBounds_toArray, List.set_cons_zero, List.set_cons_succ])
          refine takeQ (i := 8) (k := 88) (v := .bool true) rfl (by rfl) (by kernel_rfl) (by kernel_rfl) (by kernel_rfl) (fun _ _ _ h => h) (by rfl) ?_ hHeld ?_
          · intro w1 hSw; go_simp
          (try simp only [Act.put, List.setIfInBounds_toArray, List.set_cons_zero, List.set_cons_succ])
          refine takeQ (i := 9) (k := 89) (v := .bool true) rfl (by rfl) (by kernel_rfl) (by kernel_rfl) (by kernel_rfl) (fun _ _ _ h => h) (by rfl) ?_ hHeld ?_
          · intro w1 hSw; go_simp
          (try simp only [Act.put, List.setIfInBounds_toArray, List.set_cons_zero, List.set_cons_succ])
          refine takeQ (i := 10) (k := 90) (v := hfL h) rfl (by rfl) (by kernel_rfl) (by kernel_rfl) (by kernel_rfl) (fun _ _ _ h => h) (by rfl) ?_ hHeld ?_
          · intro w1 hSw; obtain ⟨⟨m0, m1, m2, m3, m4⟩, _⟩ := hf_cells hSw.1.h3; go_simp
          (try simp only [Act.put, List.setIfInBounds_toArray, List.set_cons_zero, List.set_cons_succ])
          refine takeQ (i := 13) (k := 93) (v := .pointer (some ⟨b3, 2, none⟩)) rfl (by rfl) (by kernel_rfl) (by kernel_rfl) (by kernel_rfl) (fun _ _ _ h => h) (by rfl) ?_ hHeld ?_
          · intro w1 hSw; go_simp
          (try simp only [Act.put, List.setIfInBounds_toArray, List.set_cons_zero, List.set_cons_succ])
          refine takeQ (i := 14) (k := 94) (v := .int .i64 h.t) rfl (by rfl) (by kernel_rfl) (by kernel_rfl) (by kernel_rfl) (fun _ _ _ h => h) (by rfl) ?_ hHeld ?_
          · intro w1 hSw; obtain ⟨⟨m0, m1, m2, m3, m4⟩, _⟩ := hf_cells hSw.1.h3; go_simp
          (try simp only [Act.put, List.setIfInBounds_toArray, List.set_cons_zero, List.set_cons_succ])
          refine takeQ (i := 15) (k := 95) (v := .bool true) rfl (by rfl) (by kernel_rfl) (by kernel_rfl) (by kernel_rfl) (fun _ _ _ h => h) (by rfl) ?_ hHeld ?_
          · intro w1 hSw; go_simp
          (try simp only [Act.put, List.setIfInBounds_toArray, List.set_cons_zero, List.set_cons_succ])
          refine wpAnyH_ready (rs := [11]) (by kernel_rfl) (by simp) ?_
          refine AllReadyH.cons rfl (fun K hK => ?_) AllReadyH.nil
          rw [if_pos (by rfl)]
          go_simp
          go_fit (i2 _)
          rintro e wn ⟨rfl, hbn⟩
          refine hK.out _ _ (⟨hHeld.1.on hbn, arr_belowH hHeld.2 hbn⟩) (fun hHeld => ?_)
          clear hK K
          (try simp only [Act.put, List.setIfInBounds_toArray, List.set_cons_zero, List.set_cons_succ])
          refine takeQ (i := 12) (k := 92) (v := .bool true) rfl (by rfl) (by kernel_rfl) (by kernel_rfl) (by kernel_rfl) (fun _ _ _ h => h) (by rfl) ?_ hHeld ?_
          · intro w1 hSw; go_simp
          (try simp only [Act.put, List.setIfInBounds_toArray, List.set_cons_zero, List.set_cons_succ])
          refine takeQ (i := 16) (k := 96) (v := .bool true) rfl (by rfl) (by kernel_rfl) (by kernel_rfl) (by kernel_rfl) (fun _ _ _ h => h) (by rfl) ?_ hHeld ?_
          · intro w1 hSw; go_simp
          (try simp only [Act.put, List.setIfInBounds_toArray, List.set_cons_zero, List.set_cons_succ])
          refine takeQ (i := 17) (k := 97) (v := .pointer (some ⟨b3, 4, none⟩)) rfl (by rfl) (by kernel_rfl) (by kernel_rfl) (by kernel_rfl) (fun _ _ _ h => h) (by rfl) ?_ hHeld ?_
          · intro w1 hSw; go_simp
          (try simp only [Act.put, List.setIfInBounds_toArray, List.set_cons_zero, List.set_cons_succ])
          refine takeQ (i := 18) (k := 98) (v := .int .i64 h.f) rfl (by rfl) (by kernel_rfl) (by kernel_rfl) (by kernel_rfl) (fun _ _ _ h => h) (by rfl) ?_ hHeld ?_
          · intro w1 hSw; obtain ⟨⟨m0, m1, m2, m3, m4⟩, _⟩ := hf_cells hSw.1.h3; go_simp
          (try simp only [Act.put, List.setIfInBounds_toArray, List.set_cons_zero, List.set_cons_succ])
          refine takeQ (i := 19) (k := 99) (v := .bool true) rfl (by rfl) (by kernel_rfl) (by kernel_rfl) (by kernel_rfl) (fun _ _ _ h => h) (by rfl) ?_ hHeld ?_
          · intro w1 hSw; go_simp
          (try simp only [Act.put, List.setIfInBounds_toArray, List.set_cons_zero, List.set_cons_succ])
          refine takeQ (i := 20) (k := 100) (v := .bool true) rfl (by rfl) (by kernel_rfl) (by kernel_rfl) (by kernel_rfl) (fun _ _ _ h => h) (by rfl) ?_ hHeld ?_
          · intro w1 hSw; go_simp
          (try simp only [Act.put, List.setIfInBounds_toArray, List.set_cons_zero, List.set_cons_succ])
          refine takeQ (i := 21) (k := 101) (v := .bool true) rfl (by rfl) (by kernel_rfl) (by kernel_rfl) (by kernel_rfl) (fun _ _ _ h => h) (by rfl) ?_ hHeld ?_
          · intro w1 hSw; go_simp
          (try simp only [Act.put, List.setIfInBounds_toArray, List.set_cons_zero, List.set_cons_succ])
          refine takeQ (i := 22) (k := 102) (v := .bool true) rfl (by rfl) (by kernel_rfl) (by kernel_rfl) (by kernel_rfl) (fun _ _ _ h => h) (by rfl) ?_ hHeld ?_
          · intro w1 hSw; go_simp
          (try simp only [Act.put, List.setIfInBounds_toArray, List.set_cons_zero, List.set_cons_succ])
          refine takeQ (i := 23) (k := 2) (v := .bool true) rfl (by rfl) (by kernel_rfl) (by kernel_rfl) (by kernel_rfl) (fun _ _ _ h => h) (by rfl) ?_ hHeld ?_
          · intro w1 hSw; go_simp
          (try simp only [Act.put, List.setIfInBounds_toArray, List.set_cons_zero, List.set_cons_succ])
          refine wpAnyH_done (by kernel_rfl) ?_ _
          go_wp2
          go_ret
          exact ⟨rfl, hHeld.1.bl⟩
  · have hRe : R = illH 1 := HR.out.symm.trans (if_neg q)
    have hRc : (R.c != 0) = true := by rw [hRe]; rfl
    clear hRe q HR
    go_region_held3 (fun W => ((W.cell? ⟨b3, 0, none⟩ = some (.int .i64 h.n) ∧ W.cell? ⟨b3, 1, none⟩ = some (.int .i64 h.o) ∧ W.cell? ⟨b3, 2, none⟩ = some (.int .i64 h.t) ∧ W.cell? ⟨b3, 3, none⟩ = some (.int .i64 h.i) ∧ W.cell? ⟨b3, 4, none⟩ = some (.int .i64 h.f)) ∧ (W.cell? ⟨b4, 0, none⟩ = some (.int .i64 R.h.n) ∧ W.cell? ⟨b4, 1, none⟩ = some (.int .i64 R.h.o) ∧ W.cell? ⟨b4, 2, none⟩ = some (.int .i64 R.h.t) ∧ W.cell? ⟨b4, 3, none⟩ = some (.int .i64 R.h.i) ∧ W.cell? ⟨b4, 4, none⟩ = some (.int .i64 R.h.f) ∧ W.cell? ⟨b4, 5, none⟩ = some (.slice p2 R.s.length k2) ∧ W.cell? ⟨b4, 6, none⟩ = some (.int .i64 R.c))) ∧ KS w b3 b4 B4 h R p2 k2 W)
      (with_reducible first | assumption | exact ss_drew HV.out | exact ss_on (by assumption) hbN)
      (first
        | (go_at_call 16; go_fit (lw_half R p2 pA k2 kA _ (by have := HRL.out; omega) (row_ownH HF1.out.2.o4.2) (row_ownH HOA.out)); rintro e wN ⟨rfl, hbN⟩; have HF2 := Lib.hid (ss_on HF1.out hbN))
        | (go_at_call 25; go_fit (i1s _); rintro e wN ⟨⟨pA, kA, rfl, hoA⟩, hbN⟩; have HF1 := Lib.hid (ss_on (ss_drew HV.out) hbN); have HOA := Lib.hid hoA)
        | (go_at_call 26; go_fit (i2 _); rintro e wN ⟨rfl, hbN⟩; have HF3 := Lib.hid (ss_on HF2.out hbN))
        | (go_at_call 27; go_fit (i2s _); rintro e wN ⟨rfl, hbN⟩; have HF4 := Lib.hid (ss_on HF3.out hbN))
        | (go_at_call 28; go_fit (i3 _); rintro e wN ⟨rfl, hbN⟩; have HF5 := Lib.hid (ss_on HF4.out hbN))
        | (go_at_call 29; go_fit (i3s _); rintro e wN ⟨rfl, hbN⟩; have HF6 := Lib.hid (ss_on HF5.out hbN)))
    have HW := Lib.hid HF6.out.2
    clear HV HF1 HF2 HF3 HF4 HF5 HF6 HOA hoA
    have HV := HW
    go_wp2_with fail
    go_region_held3 (fun W => ((W.cell? ⟨b3, 0, none⟩ = some (.int .i64 h.n) ∧ W.cell? ⟨b3, 1, none⟩ = some (.int .i64 h.o) ∧ W.cell? ⟨b3, 2, none⟩ = some (.int .i64 h.t) ∧ W.cell? ⟨b3, 3, none⟩ = some (.int .i64 h.i) ∧ W.cell? ⟨b3, 4, none⟩ = some (.int .i64 h.f)) ∧ (W.cell? ⟨b4, 0, none⟩ = some (.int .i64 R.h.n) ∧ W.cell? ⟨b4, 1, none⟩ = some (.int .i64 R.h.o) ∧ W.cell? ⟨b4, 2, none⟩ = some (.int .i64 R.h.t) ∧ W.cell? ⟨b4, 3, none⟩ = some (.int .i64 R.h.i) ∧ W.cell? ⟨b4, 4, none⟩ = some (.int .i64 R.h.f) ∧ W.cell? ⟨b4, 5, none⟩ = some (.slice p2 R.s.length k2) ∧ W.cell? ⟨b4, 6, none⟩ = some (.int .i64 R.c))) ∧ KS w b3 b4 B4 h R p2 k2 W)
      (with_reducible first | assumption | exact ss_drew HV.out | exact ss_on (by assumption) hbN)
      (first
        | (go_at_call 16; go_fit (lw_half R p2 pA k2 kA _ (by have := HRL.out; omega) (row_ownH HF1.out.2.o4.2) (row_ownH HOA.out)); rintro e wN ⟨rfl, hbN⟩; have HF2 := Lib.hid (ss_on HF1.out hbN))
        | (go_at_call 25; go_fit (i1s _); rintro e wN ⟨⟨pA, kA, rfl, hoA⟩, hbN⟩; have HF1 := Lib.hid (ss_on (ss_drew HV.out) hbN); have HOA := Lib.hid hoA)
        | (go_at_call 26; go_fit (i2 _); rintro e wN ⟨rfl, hbN⟩; have HF3 := Lib.hid (ss_on HF2.out hbN))
        | (go_at_call 27; go_fit (i2s _); rintro e wN ⟨rfl, hbN⟩; have HF4 := Lib.hid (ss_on HF3.out hbN))
        | (go_at_call 28; go_fit (i3 _); rintro e wN ⟨rfl, hbN⟩; have HF5 := Lib.hid (ss_on HF4.out hbN))
        | (go_at_call 29; go_fit (i3s _); rintro e wN ⟨rfl, hbN⟩; have HF6 := Lib.hid (ss_on HF5.out hbN)))
    go_wp2
    go_ret
    exact ⟨rfl, HF6.out.2.bl⟩
end Go.Proofs.Ytgfpcmfcnphalaa
