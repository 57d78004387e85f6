/- Several parts in one text: DlLaw. -/
import Derived.Test.YtkjkfcljejjpbaaDoorDlTopG
import Derived.Test.YtkjkfcljejjpbaaDoorHandQ
import Derived.Test.YtkjkfcljejjpbaaDoorDlBaseG
namespace Go.Proofs.YtkjkfcljejjpbaaDoor
set_option linter.unusedSimpArgs false
set_option linter.unusedVariables false
open Go.RowKit Go.Joins

/-- A dialback in a box of the law's. -/
def PD (W : World) (b : Nat) (d : ByteArray) (n : Int) (ps : List PrL) (p : Option Addr) (k : Nat) : Prop := Arr W b 25 [.string d, .int .i64 n, .slice p ps.length k] ∧ OwnC prC W 0 43 4 (.slice p ps.length k) ps
theorem PD.on {W W2 : World} {b : Nat} {d : ByteArray} {n : Int} {ps : List PrL} {p : Option Addr} {k : Nat} (h : PD W b d n ps p k) (hb : Below W.heap.size W W2) : PD W2 b d n ps p k := ⟨arr_below h.1 hb, h.2.on hb⟩
theorem PD.new {W : World} {B : Nat} {d : ByteArray} {n : Int} {ps : List PrL} {p : Option Addr} {k : Nat} (h : OwnC prC W B 43 4 (.slice p ps.length k) ps) : PD (W.alloc (.cells #[.string d, .int .i64 n, .slice p ps.length k] 25)) W.heap.size d n ps p k :=
  ⟨Arr.fresh W 25 [.string d, .int .i64 n, .slice p ps.length k], (h.mono (Nat.zero_le _)).alloc _⟩
theorem PD.row {W : World} {b : Nat} {d : ByteArray} {n : Int} {ps : List PrL} {p : Option Addr} {k : Nat} (h : PD W b d n ps p k) : RowC prC 4 W p ps := rowP h.2
/-- A dialback and an answer. -/
def P2 (W : World) (b : Nat) (d : ByteArray) (n : Int) (ps : List PrL) (p : Option Addr) (k : Nat) (bo : Nat) (R : DoR) (q : Option Addr) (l : Nat) : Prop := PD W b d n ps p k ∧ OutB bo 0 W R q l
theorem P2.on {W W2 : World} {b : Nat} {d : ByteArray} {n : Int} {ps : List PrL} {p : Option Addr} {k bo : Nat} {R : DoR} {q : Option Addr} {l : Nat} (h : P2 W b d n ps p k bo R q l) (hb : Below W.heap.size W W2) : P2 W2 b d n ps p k bo R q l := ⟨h.1.on hb, h.2.on hb⟩
theorem OutB.zero {b B : Nat} {W : World} {R : DoR} {p : Option Addr} {k : Nat} (h : OutB b B W R p k) : OutB b 0 W R p k := ⟨h.1, h.2.mono (Nat.zero_le _)⟩
theorem P2.new {W0 W : World} {b : Nat} {d : ByteArray} {n : Int} {ps : List PrL} {p : Option Addr} {k B : Nat} {R : DoR} {q : Option Addr} {l : Nat} (h : PD W0 b d n ps p k) (hb : Below W0.heap.size W0 W) (ho : OwnC prC W B 43 4 (.slice q R.ps.length l) R.ps) :
    P2 (W.alloc (.cells #[.string R.d, .int .i64 R.n, .slice q R.ps.length l, .int .i64 R.i, .int .i64 R.c] 29)) b d n ps p k W.heap.size R q l :=
  ⟨(h.on hb).on ((Below.refl _ _).alloc (Nat.le_refl _) _), (OutB.new ho).zero⟩
theorem dlx_wf {d : ByteArray} {ps : List PrL} (h : DlX d ps) : d.size ≤ 1048576 ∧ ps.length ≤ 1048576 ∧ (∀ x ∈ ps, x.d.size ≤ 1048576 ∧ x.k.size ≤ 1048576) ∧ d.size ≤ maxLen ∧ (∀ x ∈ ps, x.d.size ≤ maxLen ∧ x.k.size ≤ maxLen) := by
  unfold maxLen
  exact ⟨by have := h.1; omega, by have := h.2.1; omega, fun x hx => ⟨by have := (h.2.2 x hx).1; omega, by have := (h.2.2 x hx).2; omega⟩, by have := h.1; omega, fun x hx => ⟨by have := (h.2.2 x hx).1; omega, by have := (h.2.2 x hx).2; omega⟩⟩
def DlX2 (d : ByteArray) (ps : List PrL) : Prop := d.size ≤ 100 ∧ ps.length ≤ 12 ∧ ∀ x ∈ ps, x.d.size ≤ 100 ∧ x.k.size ≤ 100
theorem dlx2_wf {d : ByteArray} {ps : List PrL} (h : DlX2 d ps) : d.size ≤ 1048576 ∧ ps.length ≤ 1048576 ∧ (∀ x ∈ ps, x.d.size ≤ 1048576 ∧ x.k.size ≤ 1048576) ∧ d.size ≤ maxLen ∧ (∀ x ∈ ps, x.d.size ≤ maxLen ∧ x.k.size ≤ maxLen) := by
  unfold maxLen
  exact ⟨by have := h.1; omega, by have := h.2.1; omega, fun x hx => ⟨by have := (h.2.2 x hx).1; omega, by have := (h.2.2 x hx).2; omega⟩, by have := h.1; omega, fun x hx => ⟨by have := (h.2.2 x hx).1; omega, by have := (h.2.2 x hx).2; omega⟩⟩
theorem dlx_two {d : ByteArray} {ps : List PrL} (h : DlX d ps) : DlX2 d ps := ⟨h.1, by have := h.2.1; omega, h.2.2⟩
theorem dlx_open {d : ByteArray} {n : Int} {ps : List PrL} {f : ByteArray} (h : DlX d ps) (hf : f.size ≤ 100) : DlX2 (openR d n ps f).d (openR d n ps f).ps := by
  unfold openR
  split
  · exact dlx_two (dlx_err _)
  · split
    · exact dlx_two (dlx_err _)
    · split
      · exact dlx_two (dlx_err _)
      · refine ⟨h.1, by show (ps ++ _).length ≤ 12; rw [List.length_append]; have := h.2.1; show ps.length + 1 ≤ 12; omega, fun x hx => ?_⟩
        rcases List.mem_append.1 hx with hx | hx
        · exact h.2.2 x hx
        · simp at hx
          subst hx
          exact ⟨hf, Nat.zero_le _⟩
set_option maxRecDepth 100000 in
set_option maxHeartbeats 16000000 in
theorem fndialback_law (w : World) (a0 : Option Addr) (len0 cap0 : Nat) (w0 : SrcRow w w.heap.size a0 len0) (a1 : Option Addr) (len1 cap1 : Nat) (w1 : SrcRow w w.heap.size a1 len1) (hm : MaxL w) (hE : Errs w) :
    Calls Tryd.prog 3 #[.slice a0 len0 cap0, .slice a1 len1 cap1] w fun e w' => e = .returned (.bool true) ∧ Below w.heap.size w w' := by
  have HM := Lib.hid (fun W (h : Below w.heap.size w W) => hm.below h hm.pos)
  have HE := Lib.hid (fun W (h : Below w.heap.size w W) => (show Errs W by obtain ⟨x, y, z, u, h0⟩ := hE; exact ⟨x, y, z, u, h0.below h⟩))
  have hr0 := Lib.hid w0
  have hr1 := Lib.hid w1
  clear w0 w1 hm hE
  by_cases hbig0 : 1048576 < len0
  · go_enter Tryd.func3, Tryd.ntmps3
    go_wp2
    go_ret
    exact ⟨rfl, Below.refl _ _⟩
  by_cases hbig1 : 1048576 < len1
  · go_enter Tryd.func3, Tryd.ntmps3
    go_wp2
    go_ret
    exact ⟨rfl, Below.refl _ _⟩
  obtain ⟨W0, hW0⟩ : ∃ W0, w = W0 := ⟨_, rfl⟩
  have HB0 : Hid (Below w.heap.size w W0) := Lib.hid (by rw [← hW0]; exact Below.refl _ _)
  rw [show Calls Tryd.prog 3 #[.slice a0 len0 cap0, .slice a1 len1 cap1] w = Calls Tryd.prog 3 #[.slice a0 len0 cap0, .slice a1 len1 cap1] W0 by rw [hW0]]
  clear hW0
  go_enter Tryd.func3, Tryd.ntmps3
  go_wp2_with fail
  refine (draw_open a0 len0 cap0 _ (by omega) (hr0.out.lift HB0.out HB0.out.size)).mono ?_
  rintro e v1 ⟨⟨d1, n1, ps1, p1, k1, f, rfl, hf, hd, hl, hw, ho⟩, hb⟩
  unfold dbV
  go_wp2_with fail
  have HX1 : Hid (DlX d1 ps1) := Lib.hid ⟨hd, hl, hw⟩
  have HP : Hid (PD (v1.alloc (.cells #[.string d1, .int .i64 n1, .slice p1 ps1.length k1] 25)) v1.heap.size d1 n1 ps1 p1 k1) := Lib.hid (PD.new ho)
  have HC : Hid (Below w.heap.size w v1) := Lib.hid (HB0.out.trans (hb.mono HB0.out.size))
  have HN : Hid (Below W0.heap.size W0 (v1.alloc (.cells #[.string d1, .int .i64 n1, .slice p1 ps1.length k1] 25))) := Lib.hid (hb.alloc hb.size _)
  have HD : Hid (Below w.heap.size w (v1.alloc (.cells #[.string d1, .int .i64 n1, .slice p1 ps1.length k1] 25))) := Lib.hid (HC.out.alloc HC.out.size _)
  have HF1 : Hid (f.size ≤ 1048576) := Lib.hid (by omega)
  have HG1 : Hid (f.size ≤ 100) := Lib.hid (by omega)
  clear hb ho hd hl hw hf
  generalize v1.alloc (.cells #[.string d1, .int .i64 n1, .slice p1 ps1.length k1] 25) = u1 at HP HN HD ⊢
  generalize v1.heap.size = b1 at HP ⊢
  go_fit (impl_open d1 n1 ps1 p1 k1 0 f _ (dlx_wf HX1.out).1 (dlx_wf HX1.out).2.1 (dlx_wf HX1.out).2.2.1 HP.out.2 (HM.out _ HD.out) (HE.out _ HD.out) HF1.out)
  rintro e x1 ⟨⟨q1, l1, rfl, hv⟩, hb⟩
  obtain ⟨R1, hR1⟩ : ∃ R, openR d1 n1 ps1 f = R := ⟨_, rfl⟩
  rw [hR1] at hv ⊢
  have HR1 := Lib.hid hR1
  unfold doV
  go_wp2_with fail
  have HQ1 : Hid (P2 (x1.alloc (.cells #[.string R1.d, .int .i64 R1.n, .slice q1 R1.ps.length l1, .int .i64 R1.i, .int .i64 R1.c] 29)) b1 d1 n1 ps1 p1 k1 x1.heap.size R1 q1 l1) := Lib.hid (P2.new HP.out hb hv)
  have HN2 : Hid (Below u1.heap.size u1 (x1.alloc (.cells #[.string R1.d, .int .i64 R1.n, .slice q1 R1.ps.length l1, .int .i64 R1.i, .int .i64 R1.c] 29))) := Lib.hid (hb.alloc hb.size _)
  have HB1 : Hid (Below w.heap.size w (x1.alloc (.cells #[.string R1.d, .int .i64 R1.n, .slice q1 R1.ps.length l1, .int .i64 R1.i, .int .i64 R1.c] 29))) := Lib.hid (HD.out.trans (HN2.out.mono HD.out.size))
  clear hb hv hR1
  generalize x1.alloc (.cells #[.string R1.d, .int .i64 R1.n, .slice q1 R1.ps.length l1, .int .i64 R1.i, .int .i64 R1.c] 29) = W1 at HQ1 HN2 HB1 ⊢
  generalize x1.heap.size = o1 at HQ1 ⊢
  clear HP HC HD HN HN2
  refine (draw_result a1 len1 cap1 _ (by omega) (hr1.out.lift HB1.out HB1.out.size)).mono ?_
  rintro e v2 ⟨⟨d2, n2, ps2, p2, k2, id2, key, rfl, hf, hd, hl, hw, ho⟩, hb⟩
  unfold dbV
  go_wp2_with fail
  have HX2 : Hid (DlX d2 ps2) := Lib.hid ⟨hd, hl, hw⟩
  have HP : Hid (PD (v2.alloc (.cells #[.string d2, .int .i64 n2, .slice p2 ps2.length k2] 25)) v2.heap.size d2 n2 ps2 p2 k2) := Lib.hid (PD.new ho)
  have HC : Hid (Below w.heap.size w v2) := Lib.hid (HB1.out.trans (hb.mono HB1.out.size))
  have HN : Hid (Below W1.heap.size W1 (v2.alloc (.cells #[.string d2, .int .i64 n2, .slice p2 ps2.length k2] 25))) := Lib.hid (hb.alloc hb.size _)
  have HD : Hid (Below w.heap.size w (v2.alloc (.cells #[.string d2, .int .i64 n2, .slice p2 ps2.length k2] 25))) := Lib.hid (HC.out.alloc HC.out.size _)
  have HF2 : Hid (key.size ≤ 1048576) := Lib.hid (by omega)
  have HG2 : Hid (key.size ≤ 100) := Lib.hid (by omega)
  clear hb ho hd hl hw hf
  generalize v2.alloc (.cells #[.string d2, .int .i64 n2, .slice p2 ps2.length k2] 25) = u2 at HP HN HD ⊢
  generalize v2.heap.size = b2 at HP ⊢
  go_fit (impl_result d2 n2 ps2 p2 k2 0 id2 key _ (dlx_wf HX2.out).1 (dlx_wf HX2.out).2.1 (dlx_wf HX2.out).2.2.1 HP.out.2 (HM.out _ HD.out) (HE.out _ HD.out) HF2.out)
  rintro e x2 ⟨⟨q2, l2, rfl, hv⟩, hb⟩
  obtain ⟨R2, hR2⟩ : ∃ R, resultR d2 n2 ps2 id2 key = R := ⟨_, rfl⟩
  rw [hR2] at hv ⊢
  have HR2 := Lib.hid hR2
  unfold doV
  go_wp2_with fail
  have HQ2 : Hid (P2 (x2.alloc (.cells #[.string R2.d, .int .i64 R2.n, .slice q2 R2.ps.length l2, .int .i64 R2.i, .int .i64 R2.c] 29)) b2 d2 n2 ps2 p2 k2 x2.heap.size R2 q2 l2) := Lib.hid (P2.new HP.out hb hv)
  have HN2 : Hid (Below u2.heap.size u2 (x2.alloc (.cells #[.string R2.d, .int .i64 R2.n, .slice q2 R2.ps.length l2, .int .i64 R2.i, .int .i64 R2.c] 29))) := Lib.hid (hb.alloc hb.size _)
  have HB2 : Hid (Below w.heap.size w (x2.alloc (.cells #[.string R2.d, .int .i64 R2.n, .slice q2 R2.ps.length l2, .int .i64 R2.i, .int .i64 R2.c] 29))) := Lib.hid (HD.out.trans (HN2.out.mono HD.out.size))
  clear hb hv hR2
  generalize x2.alloc (.cells #[.string R2.d, .int .i64 R2.n, .slice q2 R2.ps.length l2, .int .i64 R2.i, .int .i64 R2.c] 29) = W2 at HQ2 HN2 HB2 ⊢
  generalize x2.heap.size = o2 at HQ2 ⊢
  replace HQ1 := Lib.hid ((HQ1.out.on HN.out).on HN2.out)
  clear HP HC HD HN HN2
  refine (draw_verified a1 len1 cap1 _ (by omega) (hr1.out.lift HB2.out HB2.out.size)).mono ?_
  rintro e v3 ⟨⟨d3, n3, ps3, p3, k3, id3, good, rfl, hd, hl, hw, ho⟩, hb⟩
  unfold dbV
  go_wp2_with fail
  have HX3 : Hid (DlX d3 ps3) := Lib.hid ⟨hd, hl, hw⟩
  have HP : Hid (PD (v3.alloc (.cells #[.string d3, .int .i64 n3, .slice p3 ps3.length k3] 25)) v3.heap.size d3 n3 ps3 p3 k3) := Lib.hid (PD.new ho)
  have HC : Hid (Below w.heap.size w v3) := Lib.hid (HB2.out.trans (hb.mono HB2.out.size))
  have HN : Hid (Below W2.heap.size W2 (v3.alloc (.cells #[.string d3, .int .i64 n3, .slice p3 ps3.length k3] 25))) := Lib.hid (hb.alloc hb.size _)
  have HD : Hid (Below w.heap.size w (v3.alloc (.cells #[.string d3, .int .i64 n3, .slice p3 ps3.length k3] 25))) := Lib.hid (HC.out.alloc HC.out.size _)
  clear hb ho hd hl hw
  generalize v3.alloc (.cells #[.string d3, .int .i64 n3, .slice p3 ps3.length k3] 25) = u3 at HP HN HD ⊢
  generalize v3.heap.size = b3 at HP ⊢
  go_fit (impl_verified d3 n3 ps3 p3 k3 0 id3 good _ (dlx_wf HX3.out).1 (dlx_wf HX3.out).2.1 (dlx_wf HX3.out).2.2.1 HP.out.2 (HM.out _ HD.out) (HE.out _ HD.out))
  rintro e x3 ⟨⟨q3, l3, rfl, hv⟩, hb⟩
  obtain ⟨R3, hR3⟩ : ∃ R, verifiedR d3 n3 ps3 id3 good = R := ⟨_, rfl⟩
  rw [hR3] at hv ⊢
  have HR3 := Lib.hid hR3
  unfold doV
  go_wp2_with fail
  have HQ3 : Hid (P2 (x3.alloc (.cells #[.string R3.d, .int .i64 R3.n, .slice q3 R3.ps.length l3, .int .i64 R3.i, .int .i64 R3.c] 29)) b3 d3 n3 ps3 p3 k3 x3.heap.size R3 q3 l3) := Lib.hid (P2.new HP.out hb hv)
  have HN2 : Hid (Below u3.heap.size u3 (x3.alloc (.cells #[.string R3.d, .int .i64 R3.n, .slice q3 R3.ps.length l3, .int .i64 R3.i, .int .i64 R3.c] 29))) := Lib.hid (hb.alloc hb.size _)
  have HB3 : Hid (Below w.heap.size w (x3.alloc (.cells #[.string R3.d, .int .i64 R3.n, .slice q3 R3.ps.length l3, .int .i64 R3.i, .int .i64 R3.c] 29))) := Lib.hid (HD.out.trans (HN2.out.mono HD.out.size))
  clear hb hv hR3
  generalize x3.alloc (.cells #[.string R3.d, .int .i64 R3.n, .slice q3 R3.ps.length l3, .int .i64 R3.i, .int .i64 R3.c] 29) = W3 at HQ3 HN2 HB3 ⊢
  generalize x3.heap.size = o3 at HQ3 ⊢
  replace HQ1 := Lib.hid ((HQ1.out.on HN.out).on HN2.out)
  replace HQ2 := Lib.hid ((HQ2.out.on HN.out).on HN2.out)
  clear HP HC HD HN HN2
  have HL1 : Hid (R1.ps.length ≤ 12) := Lib.hid (by rw [← HR1.out]; exact (dlx_open HX1.out HG1.out).2.1)
  have HL2 : Hid (R2.ps.length ≤ 12) := Lib.hid (by rw [← HR2.out]; have := (dlx_result (n := n2) (id := id2) (key := key) HX2.out HG2.out).2.1; omega)
  have HL3 : Hid (R3.ps.length ≤ 12) := Lib.hid (by rw [← HR3.out]; have := (dlx_verified (n := n3) (id := id3) (good := good) HX3.out).2.1; omega)
  refine region_join [57, 58, 59, 60, 61, 62, 63, 64, 65, 66, 67, 68, 69, 70, 71, 72, 73, 74, 75, 76, 77, 78, 79, 80, 81, 82, 83, 84, 85, 86, 87, 88, 89, 90, 91, 92, 93, 94, 95, 96, 97, 98, 99, 100, 101, 102, 103, 104, 105, 106, 107, 108, 109, 110, 111, 112, 113, 114, 115] (fun vs W => vs 115 = .bool false ∧ (P2 W b1 d1 n1 ps1 p1 k1 o1 R1 q1 l1 ∧ P2 W b2 d2 n2 ps2 p2 k2 o2 R2 q2 l2 ∧ P2 W b3 d3 n3 ps3 p3 k3 o3 R3 q3 l3 ∧ Below w.heap.size w W)) ?_ ?_
  · refine wp_region_held_drew (S := fun W => (P2 W b1 d1 n1 ps1 p1 k1 o1 R1 q1 l1 ∧ P2 W b2 d2 n2 ps2 p2 k2 o2 R2 q2 l2 ∧ P2 W b3 d3 n3 ps3 p3 k3 o3 R3 q3 l3 ∧ Below w.heap.size w W)) (by kernel_rfl) ⟨HQ1.out.on (Below.refl _ _).drew, HQ2.out.on (Below.refl _ _).drew, HQ3.out.on (Below.refl _ _).drew, HB3.out.drew⟩ (fun hHeld => ?_)
    generalize W3.drew = Wd at hHeld ⊢
    clear HQ1 HQ2 HQ3 HB1 HB2 HB3
    refine takeQ (i := 0) (k := 57) (v := .pointer (some ⟨o1, 4, none⟩)) rfl (by rfl) (by kernel_rfl) (by kernel_rfl) (by kernel_rfl) (fun _ _ _ h => h) (by rfl) ?_ hHeld ?_
    · intro w1 hSw; go_simp
    (try simp only [Act.put, List.setIfInBounds_toArray, List.set_cons_zero, List.set_cons_succ])
    refine takeQ (i := 1) (k := 58) (v := .int .i64 R1.c) rfl (by rfl) (by kernel_rfl) (by kernel_rfl) (by kernel_rfl) (fun _ _ _ h => h) (by rfl) ?_ hHeld ?_
    · intro w1 hSw; obtain ⟨⟨m0, m1, m2, m3, m4⟩, -⟩ := arr_five hSw.1.2.1; go_simp
    (try simp only [Act.put, List.setIfInBounds_toArray, List.set_cons_zero, List.set_cons_succ])
    refine takeQ (i := 2) (k := 59) (v := .agg #[.string d1, .int .i64 n1, .slice p1 ps1.length k1]) rfl (by rfl) (by kernel_rfl) (by kernel_rfl) (by kernel_rfl) (fun _ _ _ h => h) (by rfl) ?_ hHeld ?_
    · intro w1 hSw; obtain ⟨m0, m1, m2, -⟩ := arr_three hSw.1.1.1; go_simp
    (try simp only [Act.put, List.setIfInBounds_toArray, List.set_cons_zero, List.set_cons_succ])
    refine takeQ (i := 3) (k := 60) (v := .string f) rfl (by rfl) (by kernel_rfl) (by kernel_rfl) (by kernel_rfl) (fun _ _ _ h => h) (by rfl) ?_ hHeld ?_
    · intro w1 hSw; go_simp
    (try simp only [Act.put, List.setIfInBounds_toArray, List.set_cons_zero, List.set_cons_succ])
    refine wpAnyH_ready (rs := [4]) (by kernel_rfl) (by simp) ?_
    refine AllReadyH.cons rfl (fun K hK => ?_) AllReadyH.nil
    rw [if_pos (by rfl)]
    go_simp
    go_fit (spec_open d1 n1 ps1 p1 k1 0 f _ (dlx_wf HX1.out).1 (dlx_wf HX1.out).2.1 (dlx_wf HX1.out).2.2.1 hHeld.1.1.2 HF1.out)
    rintro e wN ⟨⟨qA, lA, rfl, hv⟩, hbN⟩
    rw [HR1.out] at hv ⊢
    refine hK.out _ _ ⟨hHeld.1.on hbN, hHeld.2.1.on hbN, hHeld.2.2.1.on hbN, hHeld.2.2.2.trans (hbN.mono hHeld.2.2.2.size)⟩ (fun hHeld => ?_)
    clear hK K
    (try simp only [Act.put, List.setIfInBounds_toArray, List.set_cons_zero, List.set_cons_succ])
    unfold doV
    refine takeQ (i := 5) (k := 62) (v := .int .i64 R1.c) rfl (by rfl) (by kernel_rfl) (by kernel_rfl) (by kernel_rfl) (fun _ _ _ h => h) (by rfl) ?_ hHeld ?_
    · intro w1 hSw; first | kernel_rfl | (go_simp; rfl)
    (try simp only [Act.put, List.setIfInBounds_toArray, List.set_cons_zero, List.set_cons_succ])
    refine takeQ (i := 6) (k := 63) (v := .bool false) rfl (by rfl) (by kernel_rfl) (by kernel_rfl) (by kernel_rfl) (fun _ _ _ h => h) (by rfl) ?_ hHeld ?_
    · intro w1 hSw; go_simp
    (try simp only [Act.put, List.setIfInBounds_toArray, List.set_cons_zero, List.set_cons_succ])
    refine takeQ (i := 7) (k := 64) (v := .bool false) rfl (by rfl) (by kernel_rfl) (by kernel_rfl) (by kernel_rfl) (fun _ _ _ h => h) (by rfl) ?_ hHeld ?_
    · intro w1 hSw; go_simp
    (try simp only [Act.put, List.setIfInBounds_toArray, List.set_cons_zero, List.set_cons_succ])
    refine takeQ (i := 8) (k := 65) (v := .pointer (some ⟨o1, 0, none⟩)) rfl (by rfl) (by kernel_rfl) (by kernel_rfl) (by kernel_rfl) (fun _ _ _ h => h) (by rfl) ?_ hHeld ?_
    · intro w1 hSw; go_simp
    (try simp only [Act.put, List.setIfInBounds_toArray, List.set_cons_zero, List.set_cons_succ])
    refine takeQ (i := 9) (k := 66) (v := .agg #[.string R1.d, .int .i64 R1.n, .slice q1 R1.ps.length l1]) rfl (by rfl) (by kernel_rfl) (by kernel_rfl) (by kernel_rfl) (fun _ _ _ h => h) (by rfl) ?_ hHeld ?_
    · intro w1 hSw; obtain ⟨⟨m0, m1, m2, m3, m4⟩, -⟩ := arr_five hSw.1.2.1; go_simp
    (try simp only [Act.put, List.setIfInBounds_toArray, List.set_cons_zero, List.set_cons_succ])
    clear hv
    refine takeQ (i := 10) (k := 67) (v := .agg #[.string d1, .int .i64 n1, .slice p1 ps1.length k1]) rfl (by rfl) (by kernel_rfl) (by kernel_rfl) (by kernel_rfl) (fun _ _ _ h => h) (by rfl) ?_ hHeld ?_
    · intro w1 hSw; obtain ⟨m0, m1, m2, -⟩ := arr_three hSw.1.1.1; go_simp
    (try simp only [Act.put, List.setIfInBounds_toArray, List.set_cons_zero, List.set_cons_succ])
    refine takeQ (i := 11) (k := 68) (v := .string f) rfl (by rfl) (by kernel_rfl) (by kernel_rfl) (by kernel_rfl) (fun _ _ _ h => h) (by rfl) ?_ hHeld ?_
    · intro w1 hSw; go_simp
    (try simp only [Act.put, List.setIfInBounds_toArray, List.set_cons_zero, List.set_cons_succ])
    refine wpAnyH_ready (rs := [12]) (by kernel_rfl) (by simp) ?_
    refine AllReadyH.cons rfl (fun K hK => ?_) AllReadyH.nil
    rw [if_pos (by rfl)]
    go_simp
    go_fit (spec_open d1 n1 ps1 p1 k1 0 f _ (dlx_wf HX1.out).1 (dlx_wf HX1.out).2.1 (dlx_wf HX1.out).2.2.1 hHeld.1.1.2 HF1.out)
    rintro e wN ⟨⟨qA, lA, rfl, hv⟩, hbN⟩
    rw [HR1.out] at hv ⊢
    refine hK.out _ _ ⟨hHeld.1.on hbN, hHeld.2.1.on hbN, hHeld.2.2.1.on hbN, hHeld.2.2.2.trans (hbN.mono hHeld.2.2.2.size)⟩ (fun hHeld => ?_)
    clear hK K
    (try simp only [Act.put, List.setIfInBounds_toArray, List.set_cons_zero, List.set_cons_succ])
    unfold doV
    refine takeQ (i := 13) (k := 70) (v := .agg #[.string R1.d, .int .i64 R1.n, .slice qA R1.ps.length lA]) rfl (by rfl) (by kernel_rfl) (by kernel_rfl) (by kernel_rfl) (fun _ _ _ h => h) (by rfl) ?_ hHeld ?_
    · intro w1 hSw; first | kernel_rfl | (go_simp; rfl)
    (try simp only [Act.put, List.setIfInBounds_toArray, List.set_cons_zero, List.set_cons_succ])
    refine wpAnyH_ready (rs := [14]) (by kernel_rfl) (by simp) ?_
    refine AllReadyH.cons rfl (fun K hK => ?_) AllReadyH.nil
    rw [if_pos (by rfl)]
    go_simp
    go_fit (lw_db R1.d R1.n R1.ps q1 qA l1 lA _ (by have := HL1.out; omega) (rowP hHeld.1.2.2) (rowP hv))
    rintro e wN ⟨rfl, hbN⟩
    refine hK.out _ _ ⟨hHeld.1.on hbN, hHeld.2.1.on hbN, hHeld.2.2.1.on hbN, hHeld.2.2.2.trans (hbN.mono hHeld.2.2.2.size)⟩ (fun hHeld => ?_)
    clear hK K
    (try simp only [Act.put, List.setIfInBounds_toArray, List.set_cons_zero, List.set_cons_succ])
    clear hv
    refine takeQ (i := 15) (k := 72) (v := .bool false) rfl (by rfl) (by kernel_rfl) (by kernel_rfl) (by kernel_rfl) (fun _ _ _ h => h) (by rfl) ?_ hHeld ?_
    · intro w1 hSw; go_simp
    (try simp only [Act.put, List.setIfInBounds_toArray, List.set_cons_zero, List.set_cons_succ])
    refine takeQ (i := 16) (k := 73) (v := .bool false) rfl (by rfl) (by kernel_rfl) (by kernel_rfl) (by kernel_rfl) (fun _ _ _ h => h) (by rfl) ?_ hHeld ?_
    · intro w1 hSw; go_simp
    (try simp only [Act.put, List.setIfInBounds_toArray, List.set_cons_zero, List.set_cons_succ])
    refine takeQ (i := 17) (k := 74) (v := .bool false) rfl (by rfl) (by kernel_rfl) (by kernel_rfl) (by kernel_rfl) (fun _ _ _ h => h) (by rfl) ?_ hHeld ?_
    · intro w1 hSw; go_simp
    (try simp only [Act.put, List.setIfInBounds_toArray, List.set_cons_zero, List.set_cons_succ])
    refine takeQ (i := 18) (k := 75) (v := .pointer (some ⟨o2, 4, none⟩)) rfl (by rfl) (by kernel_rfl) (by kernel_rfl) (by kernel_rfl) (fun _ _ _ h => h) (by rfl) ?_ hHeld ?_
    · intro w1 hSw; go_simp
    (try simp only [Act.put, List.setIfInBounds_toArray, List.set_cons_zero, List.set_cons_succ])
    refine takeQ (i := 19) (k := 76) (v := .int .i64 R2.c) rfl (by rfl) (by kernel_rfl) (by kernel_rfl) (by kernel_rfl) (fun _ _ _ h => h) (by rfl) ?_ hHeld ?_
    · intro w1 hSw; obtain ⟨⟨m0, m1, m2, m3, m4⟩, -⟩ := arr_five hSw.2.1.2.1; go_simp
    (try simp only [Act.put, List.setIfInBounds_toArray, List.set_cons_zero, List.set_cons_succ])
    refine takeQ (i := 20) (k := 77) (v := .agg #[.string d2, .int .i64 n2, .slice p2 ps2.length k2]) rfl (by rfl) (by kernel_rfl) (by kernel_rfl) (by kernel_rfl) (fun _ _ _ h => h) (by rfl) ?_ hHeld ?_
    · intro w1 hSw; obtain ⟨m0, m1, m2, -⟩ := arr_three hSw.2.1.1.1; go_simp
    (try simp only [Act.put, List.setIfInBounds_toArray, List.set_cons_zero, List.set_cons_succ])
    refine takeQ (i := 21) (k := 78) (v := .int .i64 id2) rfl (by rfl) (by kernel_rfl) (by kernel_rfl) (by kernel_rfl) (fun _ _ _ h => h) (by rfl) ?_ hHeld ?_
    · intro w1 hSw; go_simp
    (try simp only [Act.put, List.setIfInBounds_toArray, List.set_cons_zero, List.set_cons_succ])
    refine takeQ (i := 22) (k := 79) (v := .string key) rfl (by rfl) (by kernel_rfl) (by kernel_rfl) (by kernel_rfl) (fun _ _ _ h => h) (by rfl) ?_ hHeld ?_
    · intro w1 hSw; go_simp
    (try simp only [Act.put, List.setIfInBounds_toArray, List.set_cons_zero, List.set_cons_succ])
    refine wpAnyH_ready (rs := [23]) (by kernel_rfl) (by simp) ?_
    refine AllReadyH.cons rfl (fun K hK => ?_) AllReadyH.nil
    rw [if_pos (by rfl)]
    go_simp
    go_fit (spec_result d2 n2 ps2 p2 k2 0 id2 key _ (dlx_wf HX2.out).1 (dlx_wf HX2.out).2.1 (dlx_wf HX2.out).2.2.1 hHeld.2.1.1.2 HF2.out)
    rintro e wN ⟨⟨qA, lA, rfl, hv⟩, hbN⟩
    rw [HR2.out] at hv ⊢
    refine hK.out _ _ ⟨hHeld.1.on hbN, hHeld.2.1.on hbN, hHeld.2.2.1.on hbN, hHeld.2.2.2.trans (hbN.mono hHeld.2.2.2.size)⟩ (fun hHeld => ?_)
    clear hK K
    (try simp only [Act.put, List.setIfInBounds_toArray, List.set_cons_zero, List.set_cons_succ])
    unfold doV
    refine takeQ (i := 24) (k := 81) (v := .int .i64 R2.c) rfl (by rfl) (by kernel_rfl) (by kernel_rfl) (by kernel_rfl) (fun _ _ _ h => h) (by rfl) ?_ hHeld ?_
    · intro w1 hSw; first | kernel_rfl | (go_simp; rfl)
    (try simp only [Act.put, List.setIfInBounds_toArray, List.set_cons_zero, List.set_cons_succ])
    refine takeQ (i := 25) (k := 82) (v := .bool false) rfl (by rfl) (by kernel_rfl) (by kernel_rfl) (by kernel_rfl) (fun _ _ _ h => h) (by rfl) ?_ hHeld ?_
    · intro w1 hSw; go_simp
    (try simp only [Act.put, List.setIfInBounds_toArray, List.set_cons_zero, List.set_cons_succ])
    refine takeQ (i := 26) (k := 83) (v := .bool false) rfl (by rfl) (by kernel_rfl) (by kernel_rfl) (by kernel_rfl) (fun _ _ _ h => h) (by rfl) ?_ hHeld ?_
    · intro w1 hSw; go_simp
    (try simp only [Act.put, List.setIfInBounds_toArray, List.set_cons_zero, List.set_cons_succ])
    refine takeQ (i := 27) (k := 84) (v := .bool false) rfl (by rfl) (by kernel_rfl) (by kernel_rfl) (by kernel_rfl) (fun _ _ _ h => h) (by rfl) ?_ hHeld ?_
    · intro w1 hSw; go_simp
    (try simp only [Act.put, List.setIfInBounds_toArray, List.set_cons_zero, List.set_cons_succ])
    refine takeQ (i := 28) (k := 85) (v := .pointer (some ⟨o2, 0, none⟩)) rfl (by rfl) (by kernel_rfl) (by kernel_rfl) (by kernel_rfl) (fun _ _ _ h => h) (by rfl) ?_ hHeld ?_
    · intro w1 hSw; go_simp
    (try simp only [Act.put, List.setIfInBounds_toArray, List.set_cons_zero, List.set_cons_succ])
    refine takeQ (i := 29) (k := 86) (v := .agg #[.string R2.d, .int .i64 R2.n, .slice q2 R2.ps.length l2]) rfl (by rfl) (by kernel_rfl) (by kernel_rfl) (by kernel_rfl) (fun _ _ _ h => h) (by rfl) ?_ hHeld ?_
    · intro w1 hSw; obtain ⟨⟨m0, m1, m2, m3, m4⟩, -⟩ := arr_five hSw.2.1.2.1; go_simp
    (try simp only [Act.put, List.setIfInBounds_toArray, List.set_cons_zero, List.set_cons_succ])
    clear hv
    refine takeQ (i := 30) (k := 87) (v := .agg #[.string d2, .int .i64 n2, .slice p2 ps2.length k2]) rfl (by rfl) (by kernel_rfl) (by kernel_rfl) (by kernel_rfl) (fun _ _ _ h => h) (by rfl) ?_ hHeld ?_
    · intro w1 hSw; obtain ⟨m0, m1, m2, -⟩ := arr_three hSw.2.1.1.1; go_simp
    (try simp only [Act.put, List.setIfInBounds_toArray, List.set_cons_zero, List.set_cons_succ])
    refine takeQ (i := 31) (k := 88) (v := .int .i64 id2) rfl (by rfl) (by kernel_rfl) (by kernel_rfl) (by kernel_rfl) (fun _ _ _ h => h) (by rfl) ?_ hHeld ?_
    · intro w1 hSw; go_simp
    (try simp only [Act.put, List.setIfInBounds_toArray, List.set_cons_zero, List.set_cons_succ])
    refine takeQ (i := 32) (k := 89) (v := .string key) rfl (by rfl) (by kernel_rfl) (by kernel_rfl) (by kernel_rfl) (fun _ _ _ h => h) (by rfl) ?_ hHeld ?_
    · intro w1 hSw; go_simp
    (try simp only [Act.put, List.setIfInBounds_toArray, List.set_cons_zero, List.set_cons_succ])
    refine wpAnyH_ready (rs := [33]) (by kernel_rfl) (by simp) ?_
    refine AllReadyH.cons rfl (fun K hK => ?_) AllReadyH.nil
    rw [if_pos (by rfl)]
    go_simp
    go_fit (spec_result d2 n2 ps2 p2 k2 0 id2 key _ (dlx_wf HX2.out).1 (dlx_wf HX2.out).2.1 (dlx_wf HX2.out).2.2.1 hHeld.2.1.1.2 HF2.out)
    rintro e wN ⟨⟨qA, lA, rfl, hv⟩, hbN⟩
    rw [HR2.out] at hv ⊢
    refine hK.out _ _ ⟨hHeld.1.on hbN, hHeld.2.1.on hbN, hHeld.2.2.1.on hbN, hHeld.2.2.2.trans (hbN.mono hHeld.2.2.2.size)⟩ (fun hHeld => ?_)
    clear hK K
    (try simp only [Act.put, List.setIfInBounds_toArray, List.set_cons_zero, List.set_cons_succ])
    unfold doV
    refine takeQ (i := 34) (k := 91) (v := .agg #[.string R2.d, .int .i64 R2.n, .slice qA R2.ps.length lA]) rfl (by rfl) (by kernel_rfl) (by kernel_rfl) (by kernel_rfl) (fun _ _ _ h => h) (by rfl) ?_ hHeld ?_
    · intro w1 hSw; first | kernel_rfl | (go_simp; rfl)
    (try simp only [Act.put, List.setIfInBounds_toArray, List.set_cons_zero, List.set_cons_succ])
    refine wpAnyH_ready (rs := [35]) (by kernel_rfl) (by simp) ?_
    refine AllReadyH.cons rfl (fun K hK => ?_) AllReadyH.nil
    rw [if_pos (by rfl)]
    go_simp
    go_fit (lw_db R2.d R2.n R2.ps q2 qA l2 lA _ (by have := HL2.out; omega) (rowP hHeld.2.1.2.2) (rowP hv))
    rintro e wN ⟨rfl, hbN⟩
    refine hK.out _ _ ⟨hHeld.1.on hbN, hHeld.2.1.on hbN, hHeld.2.2.1.on hbN, hHeld.2.2.2.trans (hbN.mono hHeld.2.2.2.size)⟩ (fun hHeld => ?_)
    clear hK K
    (try simp only [Act.put, List.setIfInBounds_toArray, List.set_cons_zero, List.set_cons_succ])
    clear hv
    refine takeQ (i := 36) (k := 93) (v := .bool false) rfl (by rfl) (by kernel_rfl) (by kernel_rfl) (by kernel_rfl) (fun _ _ _ h => h) (by rfl) ?_ hHeld ?_
    · intro w1 hSw; go_simp
    (try simp only [Act.put, List.setIfInBounds_toArray, List.set_cons_zero, List.set_cons_succ])
    refine takeQ (i := 37) (k := 94) (v := .bool false) rfl (by rfl) (by kernel_rfl) (by kernel_rfl) (by kernel_rfl) (fun _ _ _ h => h) (by rfl) ?_ hHeld ?_
    · intro w1 hSw; go_simp
    (try simp only [Act.put, List.setIfInBounds_toArray, List.set_cons_zero, List.set_cons_succ])
    refine takeQ (i := 38) (k := 95) (v := .bool false) rfl (by rfl) (by kernel_rfl) (by kernel_rfl) (by kernel_rfl) (fun _ _ _ h => h) (by rfl) ?_ hHeld ?_
    · intro w1 hSw; go_simp
    (try simp only [Act.put, List.setIfInBounds_toArray, List.set_cons_zero, List.set_cons_succ])
    refine takeQ (i := 39) (k := 96) (v := .pointer (some ⟨o3, 4, none⟩)) rfl (by rfl) (by kernel_rfl) (by kernel_rfl) (by kernel_rfl) (fun _ _ _ h => h) (by rfl) ?_ hHeld ?_
    · intro w1 hSw; go_simp
    (try simp only [Act.put, List.setIfInBounds_toArray, List.set_cons_zero, List.set_cons_succ])
    refine takeQ (i := 40) (k := 97) (v := .int .i64 R3.c) rfl (by rfl) (by kernel_rfl) (by kernel_rfl) (by kernel_rfl) (fun _ _ _ h => h) (by rfl) ?_ hHeld ?_
    · intro w1 hSw; obtain ⟨⟨m0, m1, m2, m3, m4⟩, -⟩ := arr_five hSw.2.2.1.2.1; go_simp
    (try simp only [Act.put, List.setIfInBounds_toArray, List.set_cons_zero, List.set_cons_succ])
    refine takeQ (i := 41) (k := 98) (v := .agg #[.string d3, .int .i64 n3, .slice p3 ps3.length k3]) rfl (by rfl) (by kernel_rfl) (by kernel_rfl) (by kernel_rfl) (fun _ _ _ h => h) (by rfl) ?_ hHeld ?_
    · intro w1 hSw; obtain ⟨m0, m1, m2, -⟩ := arr_three hSw.2.2.1.1.1; go_simp
    (try simp only [Act.put, List.setIfInBounds_toArray, List.set_cons_zero, List.set_cons_succ])
    refine takeQ (i := 42) (k := 99) (v := .int .i64 id3) rfl (by rfl) (by kernel_rfl) (by kernel_rfl) (by kernel_rfl) (fun _ _ _ h => h) (by rfl) ?_ hHeld ?_
    · intro w1 hSw; go_simp
    (try simp only [Act.put, List.setIfInBounds_toArray, List.set_cons_zero, List.set_cons_succ])
    refine takeQ (i := 43) (k := 100) (v := .bool good) rfl (by rfl) (by kernel_rfl) (by kernel_rfl) (by kernel_rfl) (fun _ _ _ h => h) (by rfl) ?_ hHeld ?_
    · intro w1 hSw; go_simp
    (try simp only [Act.put, List.setIfInBounds_toArray, List.set_cons_zero, List.set_cons_succ])
    refine wpAnyH_ready (rs := [44]) (by kernel_rfl) (by simp) ?_
    refine AllReadyH.cons rfl (fun K hK => ?_) AllReadyH.nil
    rw [if_pos (by rfl)]
    go_simp
    go_fit (spec_verified d3 n3 ps3 p3 k3 0 id3 good _ (dlx_wf HX3.out).1 (dlx_wf HX3.out).2.1 (dlx_wf HX3.out).2.2.1 hHeld.2.2.1.1.2)
    rintro e wN ⟨⟨qA, lA, rfl, hv⟩, hbN⟩
    rw [HR3.out] at hv ⊢
    refine hK.out _ _ ⟨hHeld.1.on hbN, hHeld.2.1.on hbN, hHeld.2.2.1.on hbN, hHeld.2.2.2.trans (hbN.mono hHeld.2.2.2.size)⟩ (fun hHeld => ?_)
    clear hK K
    (try simp only [Act.put, List.setIfInBounds_toArray, List.set_cons_zero, List.set_cons_succ])
    unfold doV
    refine takeQ (i := 45) (k := 102) (v := .int .i64 R3.c) rfl (by rfl) (by kernel_rfl) (by kernel_rfl) (by kernel_rfl) (fun _ _ _ h => h) (by rfl) ?_ hHeld ?_
    · intro w1 hSw; first | kernel_rfl | (go_simp; rfl)
    (try simp only [Act.put, List.setIfInBounds_toArray, List.set_cons_zero, List.set_cons_succ])
    refine takeQ (i := 46) (k := 103) (v := .bool false) rfl (by rfl) (by kernel_rfl) (by kernel_rfl) (by kernel_rfl) (fun _ _ _ h => h) (by rfl) ?_ hHeld ?_
    · intro w1 hSw; go_simp
    (try simp only [Act.put, List.setIfInBounds_toArray, List.set_cons_zero, List.set_cons_succ])
    refine takeQ (i := 47) (k := 104) (v := .bool false) rfl (by rfl) (by kernel_rfl) (by kernel_rfl) (by kernel_rfl) (fun _ _ _ h => h) (by rfl) ?_ hHeld ?_
    · intro w1 hSw; go_simp
    (try simp only [Act.put, List.setIfInBounds_toArray, List.set_cons_zero, List.set_cons_succ])
    refine takeQ (i := 48) (k := 105) (v := .bool false) rfl (by rfl) (by kernel_rfl) (by kernel_rfl) (by kernel_rfl) (fun _ _ _ h => h) (by rfl) ?_ hHeld ?_
    · intro w1 hSw; go_simp
    (try simp only [Act.put, List.setIfInBounds_toArray, List.set_cons_zero, List.set_cons_succ])
    refine takeQ (i := 49) (k := 106) (v := .pointer (some ⟨o3, 0, none⟩)) rfl (by rfl) (by kernel_rfl) (by kernel_rfl) (by kernel_rfl) (fun _ _ _ h => h) (by rfl) ?_ hHeld ?_
    · intro w1 hSw; go_simp
    (try simp only [Act.put, List.setIfInBounds_toArray, List.set_cons_zero, List.set_cons_succ])
    refine takeQ (i := 50) (k := 107) (v := .agg #[.string R3.d, .int .i64 R3.n, .slice q3 R3.ps.length l3]) rfl (by rfl) (by kernel_rfl) (by kernel_rfl) (by kernel_rfl) (fun _ _ _ h => h) (by rfl) ?_ hHeld ?_
    · intro w1 hSw; obtain ⟨⟨m0, m1, m2, m3, m4⟩, -⟩ := arr_five hSw.2.2.1.2.1; go_simp
    (try simp only [Act.put, List.setIfInBounds_toArray, List.set_cons_zero, List.set_cons_succ])
    clear hv
    refine takeQ (i := 51) (k := 108) (v := .agg #[.string d3, .int .i64 n3, .slice p3 ps3.length k3]) rfl (by rfl) (by kernel_rfl) (by kernel_rfl) (by kernel_rfl) (fun _ _ _ h => h) (by rfl) ?_ hHeld ?_
    · intro w1 hSw; obtain ⟨m0, m1, m2, -⟩ := arr_three hSw.2.2.1.1.1; go_simp
    (try simp only [Act.put, List.setIfInBounds_toArray, List.set_cons_zero, List.set_cons_succ])
    refine takeQ (i := 52) (k := 109) (v := .int .i64 id3) rfl (by rfl) (by kernel_rfl) (by kernel_rfl) (by kernel_rfl) (fun _ _ _ h => h) (by rfl) ?_ hHeld ?_
    · intro w1 hSw; go_simp
    (try simp only [Act.put, List.setIfInBounds_toArray, List.set_cons_zero, List.set_cons_succ])
    refine takeQ (i := 53) (k := 110) (v := .bool good) rfl (by rfl) (by kernel_rfl) (by kernel_rfl) (by kernel_rfl) (fun _ _ _ h => h) (by rfl) ?_ hHeld ?_
    · intro w1 hSw; go_simp
    (try simp only [Act.put, List.setIfInBounds_toArray, List.set_cons_zero, List.set_cons_succ])
    refine wpAnyH_ready (rs := [54]) (by kernel_rfl) (by simp) ?_
    refine AllReadyH.cons rfl (fun K hK => ?_) AllReadyH.nil
    rw [if_pos (by rfl)]
    go_simp
    go_fit (spec_verified d3 n3 ps3 p3 k3 0 id3 good _ (dlx_wf HX3.out).1 (dlx_wf HX3.out).2.1 (dlx_wf HX3.out).2.2.1 hHeld.2.2.1.1.2)
    rintro e wN ⟨⟨qA, lA, rfl, hv⟩, hbN⟩
    rw [HR3.out] at hv ⊢
    refine hK.out _ _ ⟨hHeld.1.on hbN, hHeld.2.1.on hbN, hHeld.2.2.1.on hbN, hHeld.2.2.2.trans (hbN.mono hHeld.2.2.2.size)⟩ (fun hHeld => ?_)
    clear hK K
    (try simp only [Act.put, List.setIfInBounds_toArray, List.set_cons_zero, List.set_cons_succ])
    unfold doV
    refine takeQ (i := 55) (k := 112) (v := .agg #[.string R3.d, .int .i64 R3.n, .slice qA R3.ps.length lA]) rfl (by rfl) (by kernel_rfl) (by kernel_rfl) (by kernel_rfl) (fun _ _ _ h => h) (by rfl) ?_ hHeld ?_
    · intro w1 hSw; first | kernel_rfl | (go_simp; rfl)
    (try simp only [Act.put, List.setIfInBounds_toArray, List.set_cons_zero, List.set_cons_succ])
    refine wpAnyH_ready (rs := [56]) (by kernel_rfl) (by simp) ?_
    refine AllReadyH.cons rfl (fun K hK => ?_) AllReadyH.nil
    rw [if_pos (by rfl)]
    go_simp
    go_fit (lw_db R3.d R3.n R3.ps q3 qA l3 lA _ (by have := HL3.out; omega) (rowP hHeld.2.2.1.2.2) (rowP hv))
    rintro e wN ⟨rfl, hbN⟩
    refine hK.out _ _ ⟨hHeld.1.on hbN, hHeld.2.1.on hbN, hHeld.2.2.1.on hbN, hHeld.2.2.2.trans (hbN.mono hHeld.2.2.2.size)⟩ (fun hHeld => ?_)
    clear hK K
    (try simp only [Act.put, List.setIfInBounds_toArray, List.set_cons_zero, List.set_cons_succ])
    clear hv
    refine takeQ (i := 57) (k := 114) (v := .bool false) rfl (by rfl) (by kernel_rfl) (by kernel_rfl) (by kernel_rfl) (fun _ _ _ h => h) (by rfl) ?_ hHeld ?_
    · intro w1 hSw; go_simp
    (try simp only [Act.put, List.setIfInBounds_toArray, List.set_cons_zero, List.set_cons_succ])
    refine takeQ (i := 58) (k := 115) (v := .bool false) rfl (by rfl) (by kernel_rfl) (by kernel_rfl) (by kernel_rfl) (fun _ _ _ h => h) (by rfl) ?_ hHeld ?_
    · intro w1 hSw; go_simp
    (try simp only [Act.put, List.setIfInBounds_toArray, List.set_cons_zero, List.set_cons_succ])
    refine wpAnyH_done (by kernel_rfl) ?_ _
    exact ⟨⟨rfl, hHeld⟩, by simp only [putAll, Act.put, List.setIfInBounds_toArray, List.set_cons_zero, List.set_cons_succ]; rfl⟩
  rintro vs W4 ⟨hv, hS⟩
  simp only [putAll, Act.put, List.setIfInBounds_toArray, List.set_cons_zero, List.set_cons_succ, hv]
  have HS := Lib.hid hS
  clear hv hS HQ1 HQ2 HQ3 HB1 HB2 HB3
  obtain ⟨z1, hz1⟩ : ∃ b, (R1.c == 0) = b := ⟨_, rfl⟩
  obtain ⟨z2, hz2⟩ : ∃ b, (R2.c == 0) = b := ⟨_, rfl⟩
  have T1 : Hid (z1 = true → (R1.i != n1) = false ∧ trB R1.d R1.n R1.ps f R1.i = false ∧ dbB R1.d R1.n R1.ps = true) := Lib.hid (fun e => by
    have h := open_fact (show (openR d1 n1 ps1 f).c = 0 by rw [HR1.out]; rw [e] at hz1; simpa using hz1)
    rw [HR1.out] at h
    exact ⟨by rw [h.1]; simp, h.2.1, h.2.2⟩)
  obtain ⟨Q2, hQ2⟩ : ∃ Q, resultR R2.d R2.n R2.ps id2 key = Q := ⟨_, rfl⟩
  have T2 : Hid (z2 = true → (Q2.c != 10) = false ∧ dbB R2.d R2.n R2.ps = true) := Lib.hid (fun e => by
    have h := result_fact (show (resultR d2 n2 ps2 id2 key).c = 0 by rw [HR2.out]; rw [e] at hz2; simpa using hz2)
    rw [HR2.out, hQ2] at h
    exact ⟨by rw [h.1]; rfl, h.2⟩)
  have HY1 : Hid (DlX2 R1.d R1.ps) := Lib.hid (by rw [← HR1.out]; exact dlx_open HX1.out HG1.out)
  have HY2 : Hid (DlX2 R2.d R2.ps) := Lib.hid (by rw [← HR2.out]; exact dlx_two (dlx_result HX2.out HG2.out))
  have HY3 : Hid (DlX2 R3.d R3.ps) := Lib.hid (by rw [← HR3.out]; exact dlx_two (dlx_verified HX3.out))
  have i1 := fun W hR hm => impl_trusts R1.d R1.n R1.ps q1 l1 f R1.i W (dlx2_wf HY1.out).2.2.2.1 HF1.out (dlx2_wf HY1.out).2.1 (dlx2_wf HY1.out).2.2.2.2 hR hm
  have i2 := fun W hR => spec_dbright R1.d R1.n R1.ps q1 l1 W (dlx2_wf HY1.out).2.2.2.1 (dlx2_wf HY1.out).2.1 (dlx2_wf HY1.out).2.2.2.2 hR
  have i3 := fun W hO hm hE => impl_result R2.d R2.n R2.ps q2 l2 0 id2 key W (dlx2_wf HY2.out).1 (dlx2_wf HY2.out).2.1 (dlx2_wf HY2.out).2.2.1 hO hm hE HF2.out
  have i4 := fun W hR => spec_dbright R2.d R2.n R2.ps q2 l2 W (dlx2_wf HY2.out).2.2.2.1 (dlx2_wf HY2.out).2.1 (dlx2_wf HY2.out).2.2.2.2 hR
  rw [hQ2] at i3
  unfold dbV at i1 i2 i3 i4
  have fld2 : ∀ (W : World) (q : Option Addr) (l : Nat), (Instr.field 29 (.agg #[.string Q2.d, .int .i64 Q2.n, .slice q Q2.ps.length l, .int .i64 Q2.i, .int .i64 Q2.c]) 2).run Tryd.prog W = .ok (.int .i64 Q2.c) W := fun _ _ _ => by kernel_rfl
  have HZ := Lib.hid (And.intro hz1 hz2)
  clear hz1 hz2 hQ2
  (obtain ⟨⟨c0, c1, c2, c3, c4⟩, -⟩ := arr_five HS.out.1.2.1); (obtain ⟨⟨e0, e1, e2, e3, e4⟩, -⟩ := arr_five HS.out.2.1.2.1); (obtain ⟨g0, g1, g2, -⟩ := arr_three HS.out.1.1.1)
  have hy1 : z1 = true → (R1.i != n1) = false := fun e => (T1.out e).1
  cases z1 <;> cases z2
  all_goals
    have kk1 := HZ.out.1
    have kk2 := HZ.out.2
    try have kk3 := hy1 rfl
    try have kk4 := (T2.out (by first | rfl | trivial)).1
    go_wp2_with (first
      | (go_at_call 14; go_fit (i1 _ (rowP HS.out.1.2.2) (HM.out _ HS.out.2.2.2)); rintro e wN ⟨rfl, hbN⟩; rw [(T1.out (by first | rfl | trivial)).2.1]; replace HS := Lib.hid (show (P2 wN b1 d1 n1 ps1 p1 k1 o1 R1 q1 l1 ∧ P2 wN b2 d2 n2 ps2 p2 k2 o2 R2 q2 l2 ∧ P2 wN b3 d3 n3 ps3 p3 k3 o3 R3 q3 l3 ∧ Below w.heap.size w wN) from ⟨HS.out.1.on hbN, HS.out.2.1.on hbN, HS.out.2.2.1.on hbN, HS.out.2.2.2.trans (hbN.mono HS.out.2.2.2.size)⟩); clear hbN; (obtain ⟨⟨c0, c1, c2, c3, c4⟩, -⟩ := arr_five HS.out.1.2.1); (obtain ⟨⟨e0, e1, e2, e3, e4⟩, -⟩ := arr_five HS.out.2.1.2.1); (obtain ⟨g0, g1, g2, -⟩ := arr_three HS.out.1.1.1))
      | (go_at_call 15; go_fit (i2 _ (rowP HS.out.1.2.2)); rintro e wN ⟨rfl, hbN⟩; rw [(T1.out (by first | rfl | trivial)).2.2]; replace HS := Lib.hid (show (P2 wN b1 d1 n1 ps1 p1 k1 o1 R1 q1 l1 ∧ P2 wN b2 d2 n2 ps2 p2 k2 o2 R2 q2 l2 ∧ P2 wN b3 d3 n3 ps3 p3 k3 o3 R3 q3 l3 ∧ Below w.heap.size w wN) from ⟨HS.out.1.on hbN, HS.out.2.1.on hbN, HS.out.2.2.1.on hbN, HS.out.2.2.2.trans (hbN.mono HS.out.2.2.2.size)⟩); clear hbN; (obtain ⟨⟨c0, c1, c2, c3, c4⟩, -⟩ := arr_five HS.out.1.2.1); (obtain ⟨⟨e0, e1, e2, e3, e4⟩, -⟩ := arr_five HS.out.2.1.2.1); (obtain ⟨g0, g1, g2, -⟩ := arr_three HS.out.1.1.1))
      | (go_at_call 7; go_fit (i3 _ HS.out.2.1.2.2 (HM.out _ HS.out.2.2.2) (HE.out _ HS.out.2.2.2)); rintro e wN ⟨⟨qA, lA, rfl, -⟩, hbN⟩; unfold doV; replace HS := Lib.hid (show (P2 wN b1 d1 n1 ps1 p1 k1 o1 R1 q1 l1 ∧ P2 wN b2 d2 n2 ps2 p2 k2 o2 R2 q2 l2 ∧ P2 wN b3 d3 n3 ps3 p3 k3 o3 R3 q3 l3 ∧ Below w.heap.size w wN) from ⟨HS.out.1.on hbN, HS.out.2.1.on hbN, HS.out.2.2.1.on hbN, HS.out.2.2.2.trans (hbN.mono HS.out.2.2.2.size)⟩); clear hbN; (obtain ⟨⟨c0, c1, c2, c3, c4⟩, -⟩ := arr_five HS.out.1.2.1); (obtain ⟨⟨e0, e1, e2, e3, e4⟩, -⟩ := arr_five HS.out.2.1.2.1); (obtain ⟨g0, g1, g2, -⟩ := arr_three HS.out.1.1.1))
      | (go_at_call 15; go_fit (i4 _ (rowP HS.out.2.1.2.2)); rintro e wN ⟨rfl, hbN⟩; rw [(T2.out (by first | rfl | trivial)).2]; replace HS := Lib.hid (show (P2 wN b1 d1 n1 ps1 p1 k1 o1 R1 q1 l1 ∧ P2 wN b2 d2 n2 ps2 p2 k2 o2 R2 q2 l2 ∧ P2 wN b3 d3 n3 ps3 p3 k3 o3 R3 q3 l3 ∧ Below w.heap.size w wN) from ⟨HS.out.1.on hbN, HS.out.2.1.on hbN, HS.out.2.2.1.on hbN, HS.out.2.2.2.trans (hbN.mono HS.out.2.2.2.size)⟩); clear hbN; (obtain ⟨⟨c0, c1, c2, c3, c4⟩, -⟩ := arr_five HS.out.1.2.1); (obtain ⟨⟨e0, e1, e2, e3, e4⟩, -⟩ := arr_five HS.out.2.1.2.1); (obtain ⟨g0, g1, g2, -⟩ := arr_three HS.out.1.1.1)))
  all_goals
    clear c0 c1 c2 c3 c4 e0 e1 e2 e3 e4 g0 g1 g2
    refine (draw_trusts a0 len0 cap0 _ (by omega) (hr0.out.lift HS.out.2.2.2 HS.out.2.2.2.size)).mono ?_
    rintro e v4 ⟨⟨d4, n4, ps4, p4, k4, who, id4, rfl, hf, hd, hl, hw, ho⟩, hb⟩
    unfold dbV
    go_wp2_with fail
    have HX4 : Hid (DlX d4 ps4) := Lib.hid ⟨hd, hl, hw⟩
    have HS4 : Hid ((PD (v4.alloc (.cells #[.string d4, .int .i64 n4, .slice p4 ps4.length k4] 25)) v4.heap.size d4 n4 ps4 p4 k4 ∧ P2 (v4.alloc (.cells #[.string d4, .int .i64 n4, .slice p4 ps4.length k4] 25)) b3 d3 n3 ps3 p3 k3 o3 R3 q3 l3 ∧ Below w.heap.size w (v4.alloc (.cells #[.string d4, .int .i64 n4, .slice p4 ps4.length k4] 25)))) := Lib.hid (by
      have hn := hb.alloc hb.size (.cells #[.string d4, .int .i64 n4, .slice p4 ps4.length k4] 25)
      exact ⟨PD.new ho, HS.out.2.2.1.on hn, HS.out.2.2.2.trans (hn.mono HS.out.2.2.2.size)⟩)
    have hf4 : who.size ≤ 1048576 := by omega
    have tI := fun W hR hm => impl_trusts d4 n4 ps4 p4 k4 who id4 W (dlx_wf HX4.out).2.2.2.1 hf4 (dlx_wf HX4.out).2.1 (dlx_wf HX4.out).2.2.2.2 hR hm
    have tS := fun W hR => spec_trusts d4 n4 ps4 p4 k4 who id4 W (dlx_wf HX4.out).2.2.2.1 hf4 (dlx_wf HX4.out).2.1 (dlx_wf HX4.out).2.2.2.2 hR
    have gI := fun W hR hm => impl_dbright d4 n4 ps4 p4 k4 W (dlx_wf HX4.out).2.2.2.1 (dlx_wf HX4.out).2.1 (dlx_wf HX4.out).2.2.2.2 hR hm
    have gS := fun W hR => spec_dbright d4 n4 ps4 p4 k4 W (dlx_wf HX4.out).2.2.2.1 (dlx_wf HX4.out).2.1 (dlx_wf HX4.out).2.2.2.2 hR
    obtain ⟨tb, htb⟩ : ∃ b, trB d4 n4 ps4 who id4 = b := ⟨_, rfl⟩
    obtain ⟨gb, hgb⟩ : ∃ b, dbB d4 n4 ps4 = b := ⟨_, rfl⟩
    rw [htb] at tI tS
    rw [hgb] at gI gS
    unfold dbV at tI tS gI gS
    clear hb ho hd hl hw hf htb hgb HS i1 i2 i3 i4 kk1 kk2 T1 T2 fld2
    generalize v4.alloc (.cells #[.string d4, .int .i64 n4, .slice p4 ps4.length k4] 25) = U4 at HS4 ⊢
    generalize v4.heap.size = b4 at HS4 ⊢
    obtain ⟨z3, hz3⟩ : ∃ b, (R3.c != 0) = b := ⟨_, rfl⟩
    have HZ3 := Lib.hid hz3
    refine region_join [164, 165, 166, 167, 168, 169, 170, 171, 172, 173, 174, 175, 176, 177, 178, 179, 180, 181, 182, 183, 184] (fun vs W => vs 184 = .bool z3 ∧ (PD W b4 d4 n4 ps4 p4 k4 ∧ P2 W b3 d3 n3 ps3 p3 k3 o3 R3 q3 l3 ∧ Below w.heap.size w W)) ?_ ?_
    · refine wp_region_held_drew (S := fun W => (PD W b4 d4 n4 ps4 p4 k4 ∧ P2 W b3 d3 n3 ps3 p3 k3 o3 R3 q3 l3 ∧ Below w.heap.size w W)) (by kernel_rfl) ⟨HS4.out.1.on (Below.refl _ _).drew, HS4.out.2.1.on (Below.refl _ _).drew, HS4.out.2.2.drew⟩ (fun hHeld => ?_)
      generalize U4.drew = Wd at hHeld ⊢
      clear HS4
      refine takeQ (i := 0) (k := 164) (v := .agg #[.string d4, .int .i64 n4, .slice p4 ps4.length k4]) rfl (by rfl) (by kernel_rfl) (by kernel_rfl) (by kernel_rfl) (fun _ _ _ h => h) (by rfl) ?_ hHeld ?_
      · intro w1 hSw; obtain ⟨m0, m1, m2, -⟩ := arr_three hSw.1.1; go_simp
      (try simp only [Act.put, List.setIfInBounds_toArray, List.set_cons_zero, List.set_cons_succ])
      refine takeQ (i := 1) (k := 165) (v := .string who) rfl (by rfl) (by kernel_rfl) (by kernel_rfl) (by kernel_rfl) (fun _ _ _ h => h) (by rfl) ?_ hHeld ?_
      · intro w1 hSw; go_simp
      (try simp only [Act.put, List.setIfInBounds_toArray, List.set_cons_zero, List.set_cons_succ])
      refine takeQ (i := 2) (k := 166) (v := .int .i64 id4) rfl (by rfl) (by kernel_rfl) (by kernel_rfl) (by kernel_rfl) (fun _ _ _ h => h) (by rfl) ?_ hHeld ?_
      · intro w1 hSw; go_simp
      (try simp only [Act.put, List.setIfInBounds_toArray, List.set_cons_zero, List.set_cons_succ])
      refine takeQ (i := 4) (k := 168) (v := .agg #[.string d4, .int .i64 n4, .slice p4 ps4.length k4]) rfl (by rfl) (by kernel_rfl) (by kernel_rfl) (by kernel_rfl) (fun _ _ _ h => h) (by rfl) ?_ hHeld ?_
      · intro w1 hSw; obtain ⟨m0, m1, m2, -⟩ := arr_three hSw.1.1; go_simp
      (try simp only [Act.put, List.setIfInBounds_toArray, List.set_cons_zero, List.set_cons_succ])
      refine takeQ (i := 5) (k := 169) (v := .string who) rfl (by rfl) (by kernel_rfl) (by kernel_rfl) (by kernel_rfl) (fun _ _ _ h => h) (by rfl) ?_ hHeld ?_
      · intro w1 hSw; go_simp
      (try simp only [Act.put, List.setIfInBounds_toArray, List.set_cons_zero, List.set_cons_succ])
      refine takeQ (i := 6) (k := 170) (v := .int .i64 id4) rfl (by rfl) (by kernel_rfl) (by kernel_rfl) (by kernel_rfl) (fun _ _ _ h => h) (by rfl) ?_ hHeld ?_
      · intro w1 hSw; go_simp
      (try simp only [Act.put, List.setIfInBounds_toArray, List.set_cons_zero, List.set_cons_succ])
      refine wpAnyH_ready (rs := [3]) (by kernel_rfl) (by simp) ?_
      refine AllReadyH.cons rfl (fun K hK => ?_) AllReadyH.nil
      rw [if_pos (by rfl)]
      go_simp
      go_fit (tI _ hHeld.1.row (HM.out _ hHeld.2.2))
      rintro e wN ⟨rfl, hbN⟩
      refine hK.out _ _ ⟨hHeld.1.on hbN, hHeld.2.1.on hbN, hHeld.2.2.trans (hbN.mono hHeld.2.2.size)⟩ (fun hHeld => ?_)
      clear hK K
      (try simp only [Act.put, List.setIfInBounds_toArray, List.set_cons_zero, List.set_cons_succ])
      refine wpAnyH_ready (rs := [7]) (by kernel_rfl) (by simp) ?_
      refine AllReadyH.cons rfl (fun K hK => ?_) AllReadyH.nil
      rw [if_pos (by rfl)]
      go_simp
      go_fit (tS _ hHeld.1.row)
      rintro e wN ⟨rfl, hbN⟩
      refine hK.out _ _ ⟨hHeld.1.on hbN, hHeld.2.1.on hbN, hHeld.2.2.trans (hbN.mono hHeld.2.2.size)⟩ (fun hHeld => ?_)
      clear hK K
      (try simp only [Act.put, List.setIfInBounds_toArray, List.set_cons_zero, List.set_cons_succ])
      refine takeQ (i := 8) (k := 172) (v := .bool false) rfl (by rfl) (by kernel_rfl) (by kernel_rfl) (by kernel_rfl) (fun _ _ _ h => h) (by rfl) ?_ hHeld ?_
      · intro w1 hSw; go_simp
      (try simp only [Act.put, List.setIfInBounds_toArray, List.set_cons_zero, List.set_cons_succ])
      refine takeQ (i := 9) (k := 173) (v := .bool false) rfl (by rfl) (by kernel_rfl) (by kernel_rfl) (by kernel_rfl) (fun _ _ _ h => h) (by rfl) ?_ hHeld ?_
      · intro w1 hSw; go_simp
      (try simp only [Act.put, List.setIfInBounds_toArray, List.set_cons_zero, List.set_cons_succ])
      refine takeQ (i := 10) (k := 174) (v := .agg #[.string d4, .int .i64 n4, .slice p4 ps4.length k4]) rfl (by rfl) (by kernel_rfl) (by kernel_rfl) (by kernel_rfl) (fun _ _ _ h => h) (by rfl) ?_ hHeld ?_
      · intro w1 hSw; obtain ⟨m0, m1, m2, -⟩ := arr_three hSw.1.1; go_simp
      (try simp only [Act.put, List.setIfInBounds_toArray, List.set_cons_zero, List.set_cons_succ])
      refine takeQ (i := 12) (k := 176) (v := .agg #[.string d4, .int .i64 n4, .slice p4 ps4.length k4]) rfl (by rfl) (by kernel_rfl) (by kernel_rfl) (by kernel_rfl) (fun _ _ _ h => h) (by rfl) ?_ hHeld ?_
      · intro w1 hSw; obtain ⟨m0, m1, m2, -⟩ := arr_three hSw.1.1; go_simp
      (try simp only [Act.put, List.setIfInBounds_toArray, List.set_cons_zero, List.set_cons_succ])
      refine wpAnyH_ready (rs := [11]) (by kernel_rfl) (by simp) ?_
      refine AllReadyH.cons rfl (fun K hK => ?_) AllReadyH.nil
      rw [if_pos (by rfl)]
      go_simp
      go_fit (gI _ hHeld.1.row (HM.out _ hHeld.2.2))
      rintro e wN ⟨rfl, hbN⟩
      refine hK.out _ _ ⟨hHeld.1.on hbN, hHeld.2.1.on hbN, hHeld.2.2.trans (hbN.mono hHeld.2.2.size)⟩ (fun hHeld => ?_)
      clear hK K
      (try simp only [Act.put, List.setIfInBounds_toArray, List.set_cons_zero, List.set_cons_succ])
      refine wpAnyH_ready (rs := [13]) (by kernel_rfl) (by simp) ?_
      refine AllReadyH.cons rfl (fun K hK => ?_) AllReadyH.nil
      rw [if_pos (by rfl)]
      go_simp
      go_fit (gS _ hHeld.1.row)
      rintro e wN ⟨rfl, hbN⟩
      refine hK.out _ _ ⟨hHeld.1.on hbN, hHeld.2.1.on hbN, hHeld.2.2.trans (hbN.mono hHeld.2.2.size)⟩ (fun hHeld => ?_)
      clear hK K
      (try simp only [Act.put, List.setIfInBounds_toArray, List.set_cons_zero, List.set_cons_succ])
      refine takeQ (i := 14) (k := 178) (v := .bool false) rfl (by rfl) (by kernel_rfl) (by kernel_rfl) (by kernel_rfl) (fun _ _ _ h => h) (by rfl) ?_ hHeld ?_
      · intro w1 hSw; go_simp
      (try simp only [Act.put, List.setIfInBounds_toArray, List.set_cons_zero, List.set_cons_succ])
      refine takeQ (i := 15) (k := 179) (v := .bool false) rfl (by rfl) (by kernel_rfl) (by kernel_rfl) (by kernel_rfl) (fun _ _ _ h => h) (by rfl) ?_ hHeld ?_
      · intro w1 hSw; go_simp
      (try simp only [Act.put, List.setIfInBounds_toArray, List.set_cons_zero, List.set_cons_succ])
      refine takeQ (i := 16) (k := 180) (v := .bool false) rfl (by rfl) (by kernel_rfl) (by kernel_rfl) (by kernel_rfl) (fun _ _ _ h => h) (by rfl) ?_ hHeld ?_
      · intro w1 hSw; go_simp
      (try simp only [Act.put, List.setIfInBounds_toArray, List.set_cons_zero, List.set_cons_succ])
      refine takeQ (i := 17) (k := 181) (v := .pointer (some ⟨o3, 4, none⟩)) rfl (by rfl) (by kernel_rfl) (by kernel_rfl) (by kernel_rfl) (fun _ _ _ h => h) (by rfl) ?_ hHeld ?_
      · intro w1 hSw; go_simp
      (try simp only [Act.put, List.setIfInBounds_toArray, List.set_cons_zero, List.set_cons_succ])
      refine takeQ (i := 18) (k := 182) (v := .int .i64 R3.c) rfl (by rfl) (by kernel_rfl) (by kernel_rfl) (by kernel_rfl) (fun _ _ _ h => h) (by rfl) ?_ hHeld ?_
      · intro w1 hSw; obtain ⟨⟨m0, m1, m2, m3, m4⟩, -⟩ := arr_five hSw.2.1.2.1; go_simp
      (try simp only [Act.put, List.setIfInBounds_toArray, List.set_cons_zero, List.set_cons_succ])
      refine takeQ (i := 19) (k := 183) (v := .bool z3) rfl (by rfl) (by kernel_rfl) (by kernel_rfl) (by kernel_rfl) (fun _ _ _ h => h) (by rfl) ?_ hHeld ?_
      · intro w1 hSw; go_simp
      (try simp only [Act.put, List.setIfInBounds_toArray, List.set_cons_zero, List.set_cons_succ])
      refine takeQ (i := 20) (k := 184) (v := .bool z3) rfl (by rfl) (by kernel_rfl) (by kernel_rfl) (by kernel_rfl) (fun _ _ _ h => h) (by rfl) ?_ hHeld ?_
      · intro w1 hSw; go_simp
      (try simp only [Act.put, List.setIfInBounds_toArray, List.set_cons_zero, List.set_cons_succ])
      refine wpAnyH_done (by kernel_rfl) ?_ _
      exact ⟨⟨rfl, hHeld⟩, by simp only [putAll, Act.put, List.setIfInBounds_toArray, List.set_cons_zero, List.set_cons_succ]; rfl⟩
    rintro vs4 W5 ⟨hv, hS⟩
    simp only [putAll, Act.put, List.setIfInBounds_toArray, List.set_cons_zero, List.set_cons_succ, hv]
    have HS := Lib.hid hS
    clear hv hS HS4 hz3
    cases z3
    · have hF := verified_fact (show (verifiedR d3 n3 ps3 id3 good).c = 0 by rw [HR3.out]; have := HZ3.out; simpa using this)
      rw [HR3.out] at hF
      obtain ⟨Q3, hQ3⟩ : ∃ Q, verifiedR R3.d R3.n R3.ps id3 good = Q := ⟨_, rfl⟩
      rw [hQ3] at hF
      have HF3 := Lib.hid hF.2
      have hq3 : (Q3.c == 10) = true := by rw [hF.1]; rfl
      have v3 := fun W hO hm hE => impl_verified R3.d R3.n R3.ps q3 l3 0 id3 good W (dlx2_wf HY3.out).1 (dlx2_wf HY3.out).2.1 (dlx2_wf HY3.out).2.2.1 hO hm hE
      rw [hQ3] at v3
      unfold dbV at v3
      have fld3 : ∀ (W : World) (q : Option Addr) (l : Nat), (Instr.field 29 (.agg #[.string Q3.d, .int .i64 Q3.n, .slice q Q3.ps.length l, .int .i64 Q3.i, .int .i64 Q3.c]) 2).run Tryd.prog W = .ok (.int .i64 Q3.c) W := fun _ _ _ => by kernel_rfl
      have hlen := HL3.out
      clear hF hQ3 tI tS gI gS
      obtain ⟨⟨c0, c1, c2, c3, c4⟩, -⟩ := arr_five HS.out.2.1.2.1
      go_wp2_with fail
      go_loopw [19] (fun iq wr => ∃ i : Nat, i ≤ R3.ps.length ∧ iq = .int .i64 i ∧ P2 wr b3 d3 n3 ps3 p3 k3 o3 R3 q3 l3 ∧ Below w.heap.size w wr) (fun i _ => R3.ps.length - (intOf i).toNat)
      case atStart => exact ⟨0, Nat.zero_le _, rfl, HS.out.2.1, HS.out.2.2⟩
      case round =>
        clear HS c0 c1 c2 c3 c4
        obtain ⟨i, hi, rfl, hP, hb⟩ := hrel
        have HP := Lib.hid hP
        have HB := Lib.hid hb
        obtain ⟨⟨c0, c1, c2, c3, c4⟩, -⟩ := arr_five hP.2.1
        by_cases hlt : i < R3.ps.length
        · obtain ⟨gg, rfl, hgg, r0, r1, r2, r3⟩ := row4 (rowP hP.2.2) hlt
          obtain ⟨x, hx⟩ : ∃ x, R3.ps[i] = x := ⟨_, rfl⟩
          have hzo := arr_lt hP.2.1
          have hxs := (dlx2_wf HY3.out).2.2.2.2 _ (List.getElem_mem hlt)
          have hxs2 := (dlx2_wf HY3.out).2.2.1 _ (List.getElem_mem hlt)
          rw [hx] at r0 r1 r2 r3 hxs hxs2
          obtain ⟨bx, hbx⟩ : ∃ b, (x.i == id3) = b := ⟨_, rfl⟩
          have t3 := fun W hR hm => impl_trusts R3.d R3.n R3.ps (some ⟨gg, 0, none⟩) l3 x.d id3 W (dlx2_wf HY3.out).2.2.2.1 hxs2.1 (dlx2_wf HY3.out).2.1 (dlx2_wf HY3.out).2.2.2.2 hR hm
          have T3 : Hid (bx = true → trB R3.d R3.n R3.ps x.d id3 = good) := Lib.hid (fun e => by
            have := HF3.out i hlt (by rw [hx]; rw [e] at hbx; simpa using hbx)
            rwa [hx] at this)
          have HBX := Lib.hid hbx
          unfold dbV at t3
          clear hP hb hx hxs hxs2 hbx
          cases bx
          · have kx := HBX.out
            go_wp2
            go_roundw
            case rel => exact ⟨i + 1, by omega, by go_num, HP.out.on ((Below.refl _ _).alloc (Nat.le_refl _) _), HB.out.alloc HB.out.size _⟩
            case measure => simp [intOf]; omega
          · have kx := HBX.out
            go_wp2_with (go_at_call 14; have _ := hgg; go_fit (t3 _ (rowP (HP.out.on ((Below.refl _ _).alloc (Nat.le_refl _) _)).2.2) (HM.out _ (HB.out.alloc HB.out.size _))); rintro e wN ⟨rfl, hbN⟩; rw [T3.out (by first | rfl | trivial)])
            go_roundw
            case rel => exact ⟨i + 1, by omega, by go_num, (HP.out.on ((Below.refl _ _).alloc (Nat.le_refl _) _)).on hbN, (HB.out.alloc HB.out.size _).trans (hbN.mono (HB.out.alloc HB.out.size _).size)⟩
            case measure => simp [intOf]; omega
        · obtain rfl : i = R3.ps.length := by omega
          go_wp2_with (go_at_call 9; go_fit (v3 _ HP.out.2.2 (HM.out _ HB.out) (HE.out _ HB.out)); rintro e wN ⟨⟨qA, lA, rfl, -⟩, hbN⟩; unfold doV)
          go_ret
          exact ⟨rfl, HB.out.trans (hbN.mono HB.out.size)⟩
    · go_wp2_with fail
      refine wp_region_held_drew (S := fun W => (PD W b4 d4 n4 ps4 p4 k4 ∧ P2 W b3 d3 n3 ps3 p3 k3 o3 R3 q3 l3 ∧ Below w.heap.size w W)) (by kernel_rfl) ⟨HS.out.1.on (Below.refl _ _).drew, HS.out.2.1.on (Below.refl _ _).drew, HS.out.2.2.drew⟩ (fun hHeld => ?_)
      generalize W5.drew = Wd at hHeld ⊢
      clear HS
      refine takeQ (i := 0) (k := 185) (v := .agg #[.string d4, .int .i64 n4, .slice p4 ps4.length k4]) rfl (by rfl) (by kernel_rfl) (by kernel_rfl) (by kernel_rfl) (fun _ _ _ h => h) (by rfl) ?_ hHeld ?_
      · intro w1 hSw; obtain ⟨m0, m1, m2, -⟩ := arr_three hSw.1.1; go_simp
      (try simp only [Act.put, List.setIfInBounds_toArray, List.set_cons_zero, List.set_cons_succ])
      refine takeQ (i := 1) (k := 186) (v := .string who) rfl (by rfl) (by kernel_rfl) (by kernel_rfl) (by kernel_rfl) (fun _ _ _ h => h) (by rfl) ?_ hHeld ?_
      · intro w1 hSw; go_simp
      (try simp only [Act.put, List.setIfInBounds_toArray, List.set_cons_zero, List.set_cons_succ])
      refine takeQ (i := 2) (k := 187) (v := .int .i64 id4) rfl (by rfl) (by kernel_rfl) (by kernel_rfl) (by kernel_rfl) (fun _ _ _ h => h) (by rfl) ?_ hHeld ?_
      · intro w1 hSw; go_simp
      (try simp only [Act.put, List.setIfInBounds_toArray, List.set_cons_zero, List.set_cons_succ])
      refine takeQ (i := 4) (k := 189) (v := .agg #[.string d4, .int .i64 n4, .slice p4 ps4.length k4]) rfl (by rfl) (by kernel_rfl) (by kernel_rfl) (by kernel_rfl) (fun _ _ _ h => h) (by rfl) ?_ hHeld ?_
      · intro w1 hSw; obtain ⟨m0, m1, m2, -⟩ := arr_three hSw.1.1; go_simp
      (try simp only [Act.put, List.setIfInBounds_toArray, List.set_cons_zero, List.set_cons_succ])
      refine takeQ (i := 5) (k := 190) (v := .string who) rfl (by rfl) (by kernel_rfl) (by kernel_rfl) (by kernel_rfl) (fun _ _ _ h => h) (by rfl) ?_ hHeld ?_
      · intro w1 hSw; go_simp
      (try simp only [Act.put, List.setIfInBounds_toArray, List.set_cons_zero, List.set_cons_succ])
      refine takeQ (i := 6) (k := 191) (v := .int .i64 id4) rfl (by rfl) (by kernel_rfl) (by kernel_rfl) (by kernel_rfl) (fun _ _ _ h => h) (by rfl) ?_ hHeld ?_
      · intro w1 hSw; go_simp
      (try simp only [Act.put, List.setIfInBounds_toArray, List.set_cons_zero, List.set_cons_succ])
      refine wpAnyH_ready (rs := [3]) (by kernel_rfl) (by simp) ?_
      refine AllReadyH.cons rfl (fun K hK => ?_) AllReadyH.nil
      rw [if_pos (by rfl)]
      go_simp
      go_fit (tI _ hHeld.1.row (HM.out _ hHeld.2.2))
      rintro e wN ⟨rfl, hbN⟩
      refine hK.out _ _ ⟨hHeld.1.on hbN, hHeld.2.1.on hbN, hHeld.2.2.trans (hbN.mono hHeld.2.2.size)⟩ (fun hHeld => ?_)
      clear hK K
      (try simp only [Act.put, List.setIfInBounds_toArray, List.set_cons_zero, List.set_cons_succ])
      refine wpAnyH_ready (rs := [7]) (by kernel_rfl) (by simp) ?_
      refine AllReadyH.cons rfl (fun K hK => ?_) AllReadyH.nil
      rw [if_pos (by rfl)]
      go_simp
      go_fit (tS _ hHeld.1.row)
      rintro e wN ⟨rfl, hbN⟩
      refine hK.out _ _ ⟨hHeld.1.on hbN, hHeld.2.1.on hbN, hHeld.2.2.trans (hbN.mono hHeld.2.2.size)⟩ (fun hHeld => ?_)
      clear hK K
      (try simp only [Act.put, List.setIfInBounds_toArray, List.set_cons_zero, List.set_cons_succ])
      refine takeQ (i := 8) (k := 193) (v := .bool true) rfl (by rfl) (by kernel_rfl) (by kernel_rfl) (by kernel_rfl) (fun _ _ _ h => h) (by rfl) ?_ hHeld ?_
      · intro w1 hSw; go_simp
      (try simp only [Act.put, List.setIfInBounds_toArray, List.set_cons_zero, List.set_cons_succ])
      refine takeQ (i := 9) (k := 194) (v := .bool true) rfl (by rfl) (by kernel_rfl) (by kernel_rfl) (by kernel_rfl) (fun _ _ _ h => h) (by rfl) ?_ hHeld ?_
      · intro w1 hSw; go_simp
      (try simp only [Act.put, List.setIfInBounds_toArray, List.set_cons_zero, List.set_cons_succ])
      refine takeQ (i := 10) (k := 195) (v := .agg #[.string d4, .int .i64 n4, .slice p4 ps4.length k4]) rfl (by rfl) (by kernel_rfl) (by kernel_rfl) (by kernel_rfl) (fun _ _ _ h => h) (by rfl) ?_ hHeld ?_
      · intro w1 hSw; obtain ⟨m0, m1, m2, -⟩ := arr_three hSw.1.1; go_simp
      (try simp only [Act.put, List.setIfInBounds_toArray, List.set_cons_zero, List.set_cons_succ])
      refine takeQ (i := 12) (k := 197) (v := .agg #[.string d4, .int .i64 n4, .slice p4 ps4.length k4]) rfl (by rfl) (by kernel_rfl) (by kernel_rfl) (by kernel_rfl) (fun _ _ _ h => h) (by rfl) ?_ hHeld ?_
      · intro w1 hSw; obtain ⟨m0, m1, m2, -⟩ := arr_three hSw.1.1; go_simp
      (try simp only [Act.put, List.setIfInBounds_toArray, List.set_cons_zero, List.set_cons_succ])
      refine wpAnyH_ready (rs := [11]) (by kernel_rfl) (by simp) ?_
      refine AllReadyH.cons rfl (fun K hK => ?_) AllReadyH.nil
      rw [if_pos (by rfl)]
      go_simp
      go_fit (gI _ hHeld.1.row (HM.out _ hHeld.2.2))
      rintro e wN ⟨rfl, hbN⟩
      refine hK.out _ _ ⟨hHeld.1.on hbN, hHeld.2.1.on hbN, hHeld.2.2.trans (hbN.mono hHeld.2.2.size)⟩ (fun hHeld => ?_)
      clear hK K
      (try simp only [Act.put, List.setIfInBounds_toArray, List.set_cons_zero, List.set_cons_succ])
      refine wpAnyH_ready (rs := [13]) (by kernel_rfl) (by simp) ?_
      refine AllReadyH.cons rfl (fun K hK => ?_) AllReadyH.nil
      rw [if_pos (by rfl)]
      go_simp
      go_fit (gS _ hHeld.1.row)
      rintro e wN ⟨rfl, hbN⟩
      refine hK.out _ _ ⟨hHeld.1.on hbN, hHeld.2.1.on hbN, hHeld.2.2.trans (hbN.mono hHeld.2.2.size)⟩ (fun hHeld => ?_)
      clear hK K
      (try simp only [Act.put, List.setIfInBounds_toArray, List.set_cons_zero, List.set_cons_succ])
      refine takeQ (i := 14) (k := 199) (v := .bool true) rfl (by rfl) (by kernel_rfl) (by kernel_rfl) (by kernel_rfl) (fun _ _ _ h => h) (by rfl) ?_ hHeld ?_
      · intro w1 hSw; go_simp
      (try simp only [Act.put, List.setIfInBounds_toArray, List.set_cons_zero, List.set_cons_succ])
      refine takeQ (i := 15) (k := 200) (v := .bool true) rfl (by rfl) (by kernel_rfl) (by kernel_rfl) (by kernel_rfl) (fun _ _ _ h => h) (by rfl) ?_ hHeld ?_
      · intro w1 hSw; go_simp
      (try simp only [Act.put, List.setIfInBounds_toArray, List.set_cons_zero, List.set_cons_succ])
      refine takeQ (i := 16) (k := 4) (v := .bool true) rfl (by rfl) (by kernel_rfl) (by kernel_rfl) (by kernel_rfl) (fun _ _ _ h => h) (by rfl) ?_ hHeld ?_
      · intro w1 hSw; go_simp
      (try simp only [Act.put, List.setIfInBounds_toArray, List.set_cons_zero, List.set_cons_succ])
      refine wpAnyH_done (by kernel_rfl) ?_ _
      go_wp2
      go_ret
      exact ⟨rfl, hHeld.2.2⟩
end Go.Proofs.YtkjkfcljejjpbaaDoor
