/- Several parts in one text: MbLRight, MbTake, MbLTake. -/
import Derived.Test.YtkdljhmenejckaaQMbA
import Derived.Test.YtkdljhmenejckaaQBase
import Derived.Test.YtkdljhmenejckaaQSeA
namespace Go.Proofs.Ytkdljhmenejckaa
set_option linter.unusedSimpArgs false
set_option linter.unusedVariables false
open Go.RowKit Go.Joins

set_option maxRecDepth 100000 in
set_option maxHeartbeats 2000000 in
theorem mbright_law (w : World) (a : Option Addr) (len cap : Nat) (xs : List SeL) (b : Option Addr) (lem cam : Nat) (ys : List MsL) (x0 : MbArg w a len xs b lem ys) (hm : MaxL w) :
    Calls Try.prog 6 #[.agg #[.slice a len cap, .slice b lem cam]] w fun e w' => e = .returned (.bool true) ∧ Below w.heap.size w w' := by
  have HX := Lib.hid x0
  have HM := Lib.hid (fun W (h : Below w.heap.size w W) => hm.below h hm.pos)
  have i1 := fun W hb => sz_mb (cap := cap) (cam := cam) HX.out W hb
  have i2 := fun hl W hb => to_mb (cap := cap) (cam := cam) HX.out hl W hb
  have hx := HX.out.1.1
  have hy := HX.out.2.1
  have i3 := fun p1 p2 k1 k2 W (hl : len ≤ 1048576 ∧ lem ≤ 1048576) hw hw2 h1 h2 => spec_mbright xs ys p1 p2 len lem k1 k2 W hx hy hl.1 hl.2 hw hw2 h1 h2
  have i4 := fun p1 p2 k1 k2 W (hl : len ≤ 1048576 ∧ lem ≤ 1048576) hw hw2 h1 h2 hm => impl_mbright xs ys p1 p2 len lem k1 k2 W hx hy hl.1 hl.2 hw hw2 h1 h2 hm
  have i5 := fun p1 p2 q1 q2 k1 k2 l1 l2 W (hl : len ≤ 1048576 ∧ lem ≤ 1048576) h1 h2 h3 h4 => eq_mb xs ys p1 p2 q1 q2 len lem k1 k2 l1 l2 W (by omega) (by omega) hx hy h1 h2 h3 h4
  obtain ⟨Z, hZ⟩ : ∃ Z, mbB xs ys = Z := ⟨_, rfl⟩
  rw [hZ] at i3 i4
  have HD0 := Lib.hid (lwM_start w a len cap b lem cam)
  clear x0 hZ hm hx hy
  go_enter Try.func6, Try.ntmps6
  go_wp2_with (first
    | (go_at_call 44; have _ := HD4; go_fit (i4 p3 p4 k3 k4 _ hz2 hz3 hz4 (row_ownS (HV4.out.1.alloc _)) (row_ownM (HV4.out.2.alloc _)) (HM.out _ (HD4.out.2.alloc HD4.out.2.size _))); rintro e w5 ⟨rfl, hb⟩; have HD5 := Lib.hid ((HD4.out.on ((Below.refl _ _).alloc (Nat.le_refl _) _)).on hb); have HV5 := Lib.hid ((MxBox.new HV4.out).on hb); clear hb)
    | (go_at_call 43; have _ := HD3; go_fit (i2 hz2 _ HD3.out.2); rintro e w4 ⟨⟨p3, k3, p4, k4, rfl, hv⟩, hb⟩; have HD4 := Lib.hid (HD3.out.on hb); have HV4 := Lib.hid hv; clear hb hv)
    | (go_at_call 42; have _ := HD2; go_fit (i3 p1 p2 k1 k2 _ hz2 hz3 hz4 (row_ownS HV2.out.1) (row_ownM HV2.out.2)); rintro e w3 ⟨rfl, hb⟩; have HD3 := Lib.hid (HD2.out.on hb); clear hb; obtain ⟨⟨c0, c1⟩, _⟩ := arr9_two HD3.out.1)
    | (go_at_call 43; have _ := HD1; go_fit (i2 hz2 _ HD1.out.2); rintro e w2 ⟨⟨p1, k1, p2, k2, rfl, hv⟩, hb⟩; have HD2 := Lib.hid (HD1.out.on hb); have HV2 := Lib.hid hv; clear hb hv)
    | (go_at_call 41; go_fit (i1 _ HD0.out.2); rintro e w1 ⟨⟨z, rfl, hz⟩, hb⟩; have HD1 := Lib.hid (HD0.out.on hb); clear hb; obtain ⟨⟨c0, c1⟩, _⟩ := arr9_two HD1.out.1; rcases hz with rfl | ⟨⟨hz0, hz1⟩, hz2, hz3, hz4⟩))
  · go_ret
    exact ⟨rfl, HD1.out.2⟩
  · refine wp_region_held_drew (S := fun W => MxBox w4.heap.size w3.heap.size W xs ys p3 len k3 p4 lem k4 ∧ LwM w W a len cap b lem cam) (by kernel_rfl) ⟨HV5.out.on (Below.refl _ _).drew, HD5.out.on (Below.refl _ _).drew⟩ (fun hHeld => ?_)
    generalize w5.drew = wd at hHeld ⊢
    refine takeQ (i := 0) (k := 22) (v := .agg #[.slice p3 len k3, .slice p4 lem k4]) rfl (by rfl) (by kernel_rfl) (by kernel_rfl) (by kernel_rfl) (fun _ _ _ h => h) (by rfl) ?_ hHeld ?_
    · intro w1 hSw; obtain ⟨⟨m0, m1⟩, _⟩ := arr9_two hSw.1.1; go_simp
    (try simp only [Act.put, List.setIfInBounds_toArray, List.set_cons_zero, List.set_cons_succ])
    refine takeQ (i := 1) (k := 23) (v := .agg #[.slice a len cap, .slice b lem cam]) rfl (by rfl) (by kernel_rfl) (by kernel_rfl) (by kernel_rfl) (fun _ _ _ h => h) (by rfl) ?_ hHeld ?_
    · intro w1 hSw; obtain ⟨⟨m0, m1⟩, _⟩ := arr9_two hSw.2.1; go_simp
    (try simp only [Act.put, List.setIfInBounds_toArray, List.set_cons_zero, List.set_cons_succ])
    refine wpAnyH_ready (rs := [2]) (by kernel_rfl) (by simp) ?_
    refine AllReadyH.cons rfl (fun K hK => ?_) AllReadyH.nil
    rw [if_pos (by rfl)]
    go_simp
    go_fit (i2 hz2 _ hHeld.2.2)
    rintro e w7 ⟨⟨p5, k5, p6, k6, rfl, hv⟩, hb7⟩
    have HV7 := Lib.hid hv
    have HS7 := Lib.hid (And.intro (hHeld.1.on hb7) (hHeld.2.on hb7))
    clear hHeld hb7 hv
    refine hK.out _ _ HS7.out (fun hHeld => ?_)
    clear hK K
    (try simp only [Act.put, List.setIfInBounds_toArray, List.set_cons_zero, List.set_cons_succ])
    refine wpAnyH_ready (rs := [3]) (by kernel_rfl) (by simp) ?_
    refine AllReadyH.cons rfl (fun K hK => ?_) AllReadyH.nil
    rw [if_pos (by rfl)]
    go_simp
    go_fit (i5 p3 p4 p5 p6 k3 k4 k5 k6 _ hz2 (row_ownS hHeld.1.2.1) (row_ownS HV7.out.1) (row_ownM hHeld.1.2.2) (row_ownM HV7.out.2))
    rintro e w8 ⟨rfl, hb8⟩
    have HS8 := Lib.hid (And.intro (hHeld.1.on hb8) (hHeld.2.on hb8))
    clear hHeld hb8
    refine hK.out _ _ HS8.out (fun hHeld => ?_)
    clear hK K
    (try simp only [Act.put, List.setIfInBounds_toArray, List.set_cons_zero, List.set_cons_succ])
    refine takeQ (i := 4) (k := 26) (v := .bool false) rfl (by rfl) (by kernel_rfl) (by kernel_rfl) (by kernel_rfl) (fun _ _ _ h => h) (by rfl) ?_ hHeld ?_
    · intro w1 hSw; go_simp
    (try simp only [Act.put, List.setIfInBounds_toArray, List.set_cons_zero, List.set_cons_succ])
    refine wpAnyH_done (by kernel_rfl) ?_ _
    have HDf := Lib.hid hHeld.2
    clear hHeld
    go_wp2
    go_ret
    exact ⟨rfl, HDf.out.2⟩
end Go.Proofs.Ytkdljhmenejckaa

namespace Go.Proofs.Ytkdljhmenejckaa
set_option linter.unusedSimpArgs false
set_option linter.unusedVariables false
open Go.RowKit Go.Joins

/-- The mailbox's box, the answer's. -/
def TkB (w W : World) (p1 : Option Addr) (n1 c1 : Nat) (p2 : Option Addr) (n2 c2 : Nat) (cs : List Value) : Prop := Arr W w.heap.size 58 [.slice p1 n1 c1, .slice p2 n2 c2] ∧ Arr W (w.heap.size + 1) 65 cs ∧ Below w.heap.size w W
theorem TkB.on {w W W2 : World} {p1 : Option Addr} {n1 c1 : Nat} {p2 : Option Addr} {n2 c2 : Nat} {cs : List Value} (h : TkB w W p1 n1 c1 p2 n2 c2 cs) (hb : Below W.heap.size W W2) : TkB w W2 p1 n1 c1 p2 n2 c2 cs := ⟨arr9_on h.1 hb, arr9_on h.2.1 hb, h.2.2.trans (hb.mono h.2.2.size)⟩
theorem tkb_start (w : World) (p1 : Option Addr) (n1 c1 : Nat) (p2 : Option Addr) (n2 c2 : Nat) : TkB w ((w.alloc (.cells #[.slice p1 n1 c1, .slice p2 n2 c2] 58)).alloc (.cells #[.slice none 0 0, .slice none 0 0, .slice none 0 0, .string ⟨#[]⟩, .string ⟨#[]⟩, .string ⟨#[]⟩, .string ⟨#[]⟩, .int .i64 0, .string ⟨#[]⟩, .int .i64 0] 65)) p1 n1 c1 p2 n2 c2 (roC (illM 0) none 0 none 0 none 0) := by
  have h2 := Arr.fresh (w.alloc (.cells #[.slice p1 n1 c1, .slice p2 n2 c2] 58)) 65 (roC (illM 0) none 0 none 0 none 0)
  rw [World.size_alloc] at h2
  exact ⟨arr9_on (Arr.fresh w 58 [.slice p1 n1 c1, .slice p2 n2 c2]) ((Below.refl _ _).alloc (Nat.le_refl _) _), h2, ((Below.refl _ _).alloc (Nat.le_refl _) _).alloc (by simp) _⟩
theorem TkB.two {w W : World} {p1 : Option Addr} {n1 c1 : Nat} {p2 : Option Addr} {n2 c2 : Nat} {cs : List Value} (h : TkB w W p1 n1 c1 p2 n2 c2 cs) : (W.cell? ⟨w.heap.size, 0, none⟩ = some (.slice p1 n1 c1) ∧ W.cell? ⟨w.heap.size, 1, none⟩ = some (.slice p2 n2 c2)) ∧ w.heap.size + 1 < W.heap.size := ⟨(arr9_two h.1).1, arr9_lt h.2.1⟩
theorem ten_all {w : World} {g t : Nat} {a0 a1 a2 a3 a4 a5 a6 a7 a8 a9 : Value} (h : Arr w g t [a0, a1, a2, a3, a4, a5, a6, a7, a8, a9]) : (w.cell? ⟨g, 0, none⟩ = some a0 ∧ w.cell? ⟨g, 1, none⟩ = some a1 ∧ w.cell? ⟨g, 2, none⟩ = some a2 ∧ w.cell? ⟨g, 3, none⟩ = some a3 ∧ w.cell? ⟨g, 4, none⟩ = some a4 ∧ w.cell? ⟨g, 5, none⟩ = some a5 ∧ w.cell? ⟨g, 6, none⟩ = some a6 ∧ w.cell? ⟨g, 7, none⟩ = some a7 ∧ w.cell? ⟨g, 8, none⟩ = some a8 ∧ w.cell? ⟨g, 9, none⟩ = some a9) ∧ w.frozen? ⟨g, 0, none⟩ = false ∧ w.frozen? ⟨g, 1, none⟩ = false ∧ w.frozen? ⟨g, 2, none⟩ = false ∧ w.frozen? ⟨g, 3, none⟩ = false ∧ w.frozen? ⟨g, 4, none⟩ = false ∧ w.frozen? ⟨g, 5, none⟩ = false ∧ w.frozen? ⟨g, 6, none⟩ = false ∧ w.frozen? ⟨g, 7, none⟩ = false ∧ w.frozen? ⟨g, 8, none⟩ = false ∧ w.frozen? ⟨g, 9, none⟩ = false :=
  ⟨⟨h.cell 0, h.cell 1, h.cell 2, h.cell 3, h.cell 4, h.cell 5, h.cell 6, h.cell 7, h.cell 8, h.cell 9⟩, h.free 0, h.free 1, h.free 2, h.free 3, h.free 4, h.free 5, h.free 6, h.free 7, h.free 8, h.free 9⟩
def put10 (w : World) (g : Nat) (b0 b1 b2 b3 b4 b5 b6 b7 b8 b9 : Value) : World := (((((((((w.setCell ⟨g, 0, none⟩ b0).setCell ⟨g, 1, none⟩ b1).setCell ⟨g, 2, none⟩ b2).setCell ⟨g, 3, none⟩ b3).setCell ⟨g, 4, none⟩ b4).setCell ⟨g, 5, none⟩ b5).setCell ⟨g, 6, none⟩ b6).setCell ⟨g, 7, none⟩ b7).setCell ⟨g, 8, none⟩ b8).setCell ⟨g, 9, none⟩ b9
theorem arr_put10 {w : World} {g t : Nat} {a0 a1 a2 a3 a4 a5 a6 a7 a8 a9 : Value} (h : Arr w g t [a0, a1, a2, a3, a4, a5, a6, a7, a8, a9]) (b0 b1 b2 b3 b4 b5 b6 b7 b8 b9 : Value) : Arr (put10 w g b0 b1 b2 b3 b4 b5 b6 b7 b8 b9) g t [b0, b1, b2, b3, b4, b5, b6, b7, b8, b9] :=
  (((((((((h.put 0 b0).put 1 b1).put 2 b2).put 3 b3).put 4 b4).put 5 b5).put 6 b6).put 7 b7).put 8 b8).put 9 b9
theorem below_put10 {D g : Nat} {w w1 : World} (h : Below D w w1) (hg : D ≤ g) (b0 b1 b2 b3 b4 b5 b6 b7 b8 b9 : Value) : Below D w (put10 w1 g b0 b1 b2 b3 b4 b5 b6 b7 b8 b9) :=
  (((((((((h.setCell (p := ⟨g, 0, none⟩) hg b0).setCell (p := ⟨g, 1, none⟩) hg b1).setCell (p := ⟨g, 2, none⟩) hg b2).setCell (p := ⟨g, 3, none⟩) hg b3).setCell (p := ⟨g, 4, none⟩) hg b4).setCell (p := ⟨g, 5, none⟩) hg b5).setCell (p := ⟨g, 6, none⟩) hg b6).setCell (p := ⟨g, 7, none⟩) hg b7).setCell (p := ⟨g, 8, none⟩) hg b8).setCell (p := ⟨g, 9, none⟩) hg b9
theorem own_put10 {α : Type} {enc : α → List Value} {w : World} {D e size g : Nat} {v : Value} {xs : List α} (h : OwnC enc w D e size v xs) (hg : g < D) (b0 b1 b2 b3 b4 b5 b6 b7 b8 b9 : Value) : OwnC enc (put10 w g b0 b1 b2 b3 b4 b5 b6 b7 b8 b9) D e size v xs :=
  (((((((((h.low (a := ⟨g, 0, none⟩) hg b0).low (a := ⟨g, 1, none⟩) hg b1).low (a := ⟨g, 2, none⟩) hg b2).low (a := ⟨g, 3, none⟩) hg b3).low (a := ⟨g, 4, none⟩) hg b4).low (a := ⟨g, 5, none⟩) hg b5).low (a := ⟨g, 6, none⟩) hg b6).low (a := ⟨g, 7, none⟩) hg b7).low (a := ⟨g, 8, none⟩) hg b8).low (a := ⟨g, 9, none⟩) hg b9
theorem str_row1 (w : World) (r : ByteArray) : OwnC strC (w.alloc (.cells #[.string r] 9)) w.heap.size 9 1 (.slice (some ⟨w.heap.size, 0, none⟩) 1 1) [r] :=
  World.ownsRow_lit w #[.string r] 1 (Nat.le_refl _) (by decide) rfl
theorem at_none {xs : List SeL} {r : ByteArray} (h0 : xs.length ≤ 5) (h1 : ¬ 20000 < r.size) (h2 : okB xs = true) (h3 : hereB r xs = false) : (atR xs r).2 = 6 := by
  unfold atR
  rw [if_neg (show ¬ (400 < xs.length ∨ 20000 < r.size) by omega), if_neg (by rw [h2]; decide), if_pos h3]
theorem at_here {xs : List SeL} {r : ByteArray} (h0 : xs.length ≤ 5) (h1 : ¬ 20000 < r.size) (h2 : okB xs = true) (h3 : hereB r xs = true) : (atR xs r).2 = 0 ∧ (atR xs r).1 = (posS r xs : Int) := by
  unfold atR
  rw [if_neg (show ¬ (400 < xs.length ∨ 20000 < r.size) by omega), if_neg (by rw [h2]; decide), if_neg (by rw [h3]; decide)]
  exact ⟨rfl, rfl⟩
theorem take_big {xs : List SeL} {ys : List MsL} {r : ByteArray} (h : 20000 < r.size) : takeR xs ys r = illM 2 := if_pos h
theorem take_bad {xs : List SeL} {ys : List MsL} {r : ByteArray} (h : ¬ 20000 < r.size) (h2 : mbB xs ys = false) : takeR xs ys r = illM 1 := by unfold takeR; rw [if_neg h, if_pos h2]
theorem take_none {xs : List SeL} {ys : List MsL} {r : ByteArray} (h : ¬ 20000 < r.size) (h2 : mbB xs ys = true) (h3 : hereB r xs = false) : takeR xs ys r = illM 6 := by
  unfold takeR
  rw [if_neg h, if_neg (by rw [h2]; decide), h3]
  split <;> simp
theorem take_here {xs : List SeL} {ys : List MsL} {r : ByteArray} (h : ¬ 20000 < r.size) (h2 : mbB xs ys = true) (h3 : hereB r xs = true) (hlt : posS r xs < xs.length) : takeR xs ys r = if (xs[posS r xs].o && decide (0 ≤ xs[posS r xs].p)) = true then ⟨xs, [], [r], zMs, 0⟩ else illM 6 := by
  unfold takeR
  rw [if_neg h, if_neg (by rw [h2]; decide), h3, List.getElem?_eq_getElem hlt]
  rfl
set_option maxRecDepth 100000 in
set_option maxHeartbeats 800000 in
theorem impl_take (xs : List SeL) (ys : List MsL) (r : ByteArray) (p1 p2 : Option Addr) (n1 n2 c1 c2 : Nat) (w : World) (hx : xs.length = n1) (hy : ys.length = n2) (hn1 : n1 ≤ 1048576) (hn2 : n2 ≤ 1048576) (hr : r.size ≤ 1048576) (hw : SzS xs) (hw2 : SzM ys) (hR1 : RowC seC 4 w p1 xs) (hR2 : RowC msC 6 w p2 ys) (hm : MaxL w) :
    Calls Try.prog 47 #[.agg #[.slice p1 n1 c1, .slice p2 n2 c2], .string r] w fun e w' => RoIs w.heap.size (takeR xs ys r) e w' ∧ Below w.heap.size w w' := by
  by_cases hbig : 20000 < r.size
  · rw [take_big hbig]
    clear hw hw2 hR1 hR2 hx hy hm
    go_enter Try.func47, Try.ntmps47
    go_wp2
    exact bodyPost_ret (v := .agg #[.slice none 0 0, .slice none 0 0, .slice none 0 0, .string ⟨#[]⟩, .string ⟨#[]⟩, .string ⟨#[]⟩, .string ⟨#[]⟩, .int .i64 0, .string ⟨#[]⟩, .int .i64 2]) (by simp [results, Try.results47, go_sem]) rfl ⟨ro_ill _ _ _, ((Below.refl _ _).alloc (Nat.le_refl _) _).alloc (by simp) _⟩
  have i1 := fun W h1 h2 hm => impl_mbright xs ys p1 p2 n1 n2 c1 c2 W hx hy hn1 hn2 hw hw2 h1 h2 hm
  have HP1 := Lib.hid (fun W (h : Below w.heap.size w W) => hR1.on h)
  have HP2 := Lib.hid (fun W (h : Below w.heap.size w W) => hR2.on h)
  have HM := Lib.hid (fun W (h : Below w.heap.size w W) => hm.below h hm.pos)
  have HJ := Lib.hid (tkb_start w p1 n1 c1 p2 n2 c2)
  cases hk : mbB xs ys
  · rw [take_bad hbig hk]
    rw [hk] at i1
    clear hk hw hw2 hR1 hR2 hx hy hm
    go_enter Try.func47, Try.ntmps47
    go_wp2_with (first
      | (go_at_call 44; go_fit (i1 _ (HP1.out _ HJ.out.2.2) (HP2.out _ HJ.out.2.2) (HM.out _ HJ.out.2.2)); rintro e w1 ⟨rfl, hb1⟩; have HJ1 := Lib.hid (HJ.out.on hb1); clear hb1; obtain ⟨⟨a0, a1⟩, hz⟩ := HJ1.out.two; obtain ⟨⟨r0, r1, r2, r3, r4, r5, r6, r7, r8, r9⟩, s0, s1, s2, s3, s4, s5, s6, s7, s8, s9⟩ := ten_all HJ1.out.2.1))
    exact bodyPost_ret (v := .agg #[.slice none 0 0, .slice none 0 0, .slice none 0 0, .string ⟨#[]⟩, .string ⟨#[]⟩, .string ⟨#[]⟩, .string ⟨#[]⟩, .int .i64 0, .string ⟨#[]⟩, .int .i64 1]) (results_cell_row (P := Try.prog) Try.results47 _ _ (w.heap.size + 1) 65 _ (0, 0) _ rfl (arr_put10 HJ1.out.2.1 (.slice none 0 0) (.slice none 0 0) (.slice none 0 0) (.string ⟨#[]⟩) (.string ⟨#[]⟩) (.string ⟨#[]⟩) (.string ⟨#[]⟩) (.int .i64 0) (.string ⟨#[]⟩) (.int .i64 1)) Try.underlying65 rfl (by kernel_rfl)) rfl ⟨ro_ill _ _ _, below_put10 HJ1.out.2.2 (Nat.le_succ _) (.slice none 0 0) (.slice none 0 0) (.slice none 0 0) (.string ⟨#[]⟩) (.string ⟨#[]⟩) (.string ⟨#[]⟩) (.string ⟨#[]⟩) (.int .i64 0) (.string ⟨#[]⟩) (.int .i64 1)⟩
  obtain ⟨hok, hn5, _⟩ := mb_parts hk
  have h5 := (okB_iff.1 hok).1
  rw [hk] at i1
  have i2 := fun W hR => impl_at xs r p1 c1 W (by omega) hr (se_max hw) hR
  have i3 := fun W hR => impl_sescopy xs p1 c1 W (by omega) hw hR
  rw [hx] at i2 i3
  cases hh : hereB r xs
  · rw [take_none hbig hk hh]
    have q0 := at_none (by omega) hbig hok hh
    obtain ⟨K, hK⟩ : ∃ K, (atR xs r).1 = K := ⟨_, rfl⟩
    rw [q0, hK] at i2
    clear q0 hK
    clear hh hk hok hw hw2 hR1 hR2 hx hy hm i3
    go_enter Try.func47, Try.ntmps47
    go_wp2_with (first
      | (go_at_call 44; go_fit (i1 _ (HP1.out _ HJ.out.2.2) (HP2.out _ HJ.out.2.2) (HM.out _ HJ.out.2.2)); rintro e w1 ⟨rfl, hb1⟩; have HJ1 := Lib.hid (HJ.out.on hb1); clear hb1; obtain ⟨⟨a0, a1⟩, hz⟩ := HJ1.out.two)
      | (go_at_call 57; go_fit (i2 _ (HP1.out _ HJ1.out.2.2)); rintro e w2 ⟨rfl, hb2⟩; have HJ2 := Lib.hid (HJ1.out.on hb2); clear hb2; obtain ⟨⟨b0, b1⟩, hz2⟩ := HJ2.out.two; obtain ⟨⟨r0, r1, r2, r3, r4, r5, r6, r7, r8, r9⟩, s0, s1, s2, s3, s4, s5, s6, s7, s8, s9⟩ := ten_all HJ2.out.2.1))
    exact bodyPost_ret (v := .agg #[.slice none 0 0, .slice none 0 0, .slice none 0 0, .string ⟨#[]⟩, .string ⟨#[]⟩, .string ⟨#[]⟩, .string ⟨#[]⟩, .int .i64 0, .string ⟨#[]⟩, .int .i64 6]) (results_cell_row (P := Try.prog) Try.results47 _ _ (w.heap.size + 1) 65 _ (0, 0) _ rfl (arr_put10 HJ2.out.2.1 (.slice none 0 0) (.slice none 0 0) (.slice none 0 0) (.string ⟨#[]⟩) (.string ⟨#[]⟩) (.string ⟨#[]⟩) (.string ⟨#[]⟩) (.int .i64 0) (.string ⟨#[]⟩) (.int .i64 6)) Try.underlying65 rfl (by kernel_rfl)) rfl ⟨ro_ill _ _ _, below_put10 HJ2.out.2.2 (Nat.le_succ _) (.slice none 0 0) (.slice none 0 0) (.slice none 0 0) (.string ⟨#[]⟩) (.string ⟨#[]⟩) (.string ⟨#[]⟩) (.string ⟨#[]⟩) (.int .i64 0) (.string ⟨#[]⟩) (.int .i64 6)⟩
  have hlt := here_lt hh
  rw [take_here hbig hk hh hlt]
  obtain ⟨q0, q1⟩ := at_here (by omega) hbig hok hh
  rw [q0, q1] at i2
  clear q0 q1
  obtain ⟨P, hP⟩ : ∃ P, posS r xs = P := ⟨_, rfl⟩
  simp only [hP] at i2 hlt ⊢
  have HROW := Lib.hid (fun W (h : RowC seC 4 W p1 xs) => row_se4 h hlt)
  obtain ⟨x, hxx⟩ : ∃ x, xs[P] = x := ⟨_, rfl⟩
  rw [hxx] at HROW ⊢
  have hlt1 : (P : Int) < (n1 : Int) := by rw [← hx]; omega
  have hP0 : (0 : Int) ≤ (P : Int) := by omega
  obtain ⟨bo, hbo⟩ : ∃ b, x.o = b := ⟨_, rfl⟩
  rw [hbo] at HROW ⊢
  have HX := Lib.hid hx
  have HY := Lib.hid hy
  clear hh hk hok hP hxx hbo hw hw2 hR1 hR2 hm hx hy hlt
  cases bo
  · rw [Bool.false_and, if_neg (by decide)]
    go_enter Try.func47, Try.ntmps47
    go_wp2_with (first
      | (go_at_call 44; go_fit (i1 _ (HP1.out _ HJ.out.2.2) (HP2.out _ HJ.out.2.2) (HM.out _ HJ.out.2.2)); rintro e w1 ⟨rfl, hb1⟩; have HJ1 := Lib.hid (HJ.out.on hb1); clear hb1; obtain ⟨⟨a0, a1⟩, hz⟩ := HJ1.out.two)
      | (go_at_call 57; go_fit (i2 _ (HP1.out _ HJ1.out.2.2)); rintro e w2 ⟨rfl, hb2⟩; have HJ2 := Lib.hid (HJ1.out.on hb2); clear hb2; obtain ⟨⟨b0, b1⟩, hz2⟩ := HJ2.out.two; obtain ⟨⟨r0, r1, r2, r3, r4, r5, r6, r7, r8, r9⟩, s0, s1, s2, s3, s4, s5, s6, s7, s8, s9⟩ := ten_all HJ2.out.2.1; obtain ⟨g, hgp, hg, x0, x1, x2, x3⟩ := HROW.out _ (HP1.out _ HJ2.out.2.2); subst hgp))
    exact bodyPost_ret (v := .agg #[.slice none 0 0, .slice none 0 0, .slice none 0 0, .string ⟨#[]⟩, .string ⟨#[]⟩, .string ⟨#[]⟩, .string ⟨#[]⟩, .int .i64 0, .string ⟨#[]⟩, .int .i64 6]) (results_cell_row (P := Try.prog) Try.results47 _ _ (w.heap.size + 1) 65 _ (0, 0) _ rfl (arr_put10 HJ2.out.2.1 (.slice none 0 0) (.slice none 0 0) (.slice none 0 0) (.string ⟨#[]⟩) (.string ⟨#[]⟩) (.string ⟨#[]⟩) (.string ⟨#[]⟩) (.int .i64 0) (.string ⟨#[]⟩) (.int .i64 6)) Try.underlying65 rfl (by kernel_rfl)) rfl ⟨ro_ill _ _ _, below_put10 HJ2.out.2.2 (Nat.le_succ _) (.slice none 0 0) (.slice none 0 0) (.slice none 0 0) (.string ⟨#[]⟩) (.string ⟨#[]⟩) (.string ⟨#[]⟩) (.string ⟨#[]⟩) (.int .i64 0) (.string ⟨#[]⟩) (.int .i64 6)⟩
  by_cases hpr : 0 ≤ x.p
  rotate_left
  · rw [decide_eq_false hpr, Bool.and_false, if_neg (by decide)]
    have hpr2 : x.p < 0 := by omega
    clear hpr
    go_enter Try.func47, Try.ntmps47
    go_wp2_with (first
      | (go_at_call 44; go_fit (i1 _ (HP1.out _ HJ.out.2.2) (HP2.out _ HJ.out.2.2) (HM.out _ HJ.out.2.2)); rintro e w1 ⟨rfl, hb1⟩; have HJ1 := Lib.hid (HJ.out.on hb1); clear hb1; obtain ⟨⟨a0, a1⟩, hz⟩ := HJ1.out.two)
      | (go_at_call 57; go_fit (i2 _ (HP1.out _ HJ1.out.2.2)); rintro e w2 ⟨rfl, hb2⟩; have HJ2 := Lib.hid (HJ1.out.on hb2); clear hb2; obtain ⟨⟨b0, b1⟩, hz2⟩ := HJ2.out.two; obtain ⟨⟨r0, r1, r2, r3, r4, r5, r6, r7, r8, r9⟩, s0, s1, s2, s3, s4, s5, s6, s7, s8, s9⟩ := ten_all HJ2.out.2.1; obtain ⟨g, hgp, hg, x0, x1, x2, x3⟩ := HROW.out _ (HP1.out _ HJ2.out.2.2); subst hgp))
    exact bodyPost_ret (v := .agg #[.slice none 0 0, .slice none 0 0, .slice none 0 0, .string ⟨#[]⟩, .string ⟨#[]⟩, .string ⟨#[]⟩, .string ⟨#[]⟩, .int .i64 0, .string ⟨#[]⟩, .int .i64 6]) (results_cell_row (P := Try.prog) Try.results47 _ _ (w.heap.size + 1) 65 _ (0, 0) _ rfl (arr_put10 HJ2.out.2.1 (.slice none 0 0) (.slice none 0 0) (.slice none 0 0) (.string ⟨#[]⟩) (.string ⟨#[]⟩) (.string ⟨#[]⟩) (.string ⟨#[]⟩) (.int .i64 0) (.string ⟨#[]⟩) (.int .i64 6)) Try.underlying65 rfl (by kernel_rfl)) rfl ⟨ro_ill _ _ _, below_put10 HJ2.out.2.2 (Nat.le_succ _) (.slice none 0 0) (.slice none 0 0) (.slice none 0 0) (.string ⟨#[]⟩) (.string ⟨#[]⟩) (.string ⟨#[]⟩) (.string ⟨#[]⟩) (.int .i64 0) (.string ⟨#[]⟩) (.int .i64 6)⟩
  rw [decide_eq_true hpr, Bool.true_and, if_pos rfl]
  have hpr2 : ¬ x.p < 0 := by omega
  clear hpr
  go_enter Try.func47, Try.ntmps47
  go_wp2_with (first
    | (go_at_call 44; go_fit (i1 _ (HP1.out _ HJ.out.2.2) (HP2.out _ HJ.out.2.2) (HM.out _ HJ.out.2.2)); rintro e w1 ⟨rfl, hb1⟩; have HJ1 := Lib.hid (HJ.out.on hb1); clear hb1; obtain ⟨⟨a0, a1⟩, hz⟩ := HJ1.out.two)
    | (go_at_call 57; go_fit (i2 _ (HP1.out _ HJ1.out.2.2)); rintro e w2 ⟨rfl, hb2⟩; have HJ2 := Lib.hid (HJ1.out.on hb2); clear hb2; obtain ⟨⟨b0, b1⟩, hz2⟩ := HJ2.out.two; obtain ⟨⟨r0, r1, r2, r3, r4, r5, r6, r7, r8, r9⟩, s0, s1, s2, s3, s4, s5, s6, s7, s8, s9⟩ := ten_all HJ2.out.2.1; obtain ⟨g, hgp, hg, x0, x1, x2, x3⟩ := HROW.out _ (HP1.out _ HJ2.out.2.2); subst hgp)
    | (go_at_call 60; go_fit (i3 _ (HP1.out _ HJ2.out.2.2)); rintro e w3 ⟨⟨rfl, hv⟩, hb3⟩; have HJ3 := Lib.hid (HJ2.out.on hb3); have HV3 := Lib.hid hv; clear hb3 hv)
    | (go_at_call 61; go_fit (joined_at9 r w3 (by omega) w3.heap.size rfl); rintro e w4 ⟨rfl, hb4⟩; have HJ4 := Lib.hid (HJ3.out.on hb4); have HV4 := Lib.hid (HV3.out.on hb4); have HJ5 := Lib.hid (HJ4.out.on ((Below.refl _ _).alloc (Nat.le_refl _) (.cells #[.string r] 9))); obtain ⟨⟨r0, r1, r2, r3, r4, r5, r6, r7, r8, r9⟩, s0, s1, s2, s3, s4, s5, s6, s7, s8, s9⟩ := ten_all HJ5.out.2.1; clear hb4))
  have hn2 : w.heap.size + 1 < w2.heap.size := (HJ2.out.two).2
  have hn4 : w.heap.size + 1 < w4.heap.size := (HJ4.out.two).2
  have h1 := own_put10 (HV4.out.alloc (.cells #[.string r] 9)) hn2 (.slice (some ⟨w2.heap.size, 0, none⟩) n1 n1) (.slice none 0 0) (.slice (some ⟨w4.heap.size, 0, none⟩) 1 1) (.string ⟨#[]⟩) (.string ⟨#[]⟩) (.string ⟨#[]⟩) (.string ⟨#[]⟩) (.int .i64 0) (.string ⟨#[]⟩) (.int .i64 0)
  have h3 := own_put10 (str_row1 w4 r) hn4 (.slice (some ⟨w2.heap.size, 0, none⟩) n1 n1) (.slice none 0 0) (.slice (some ⟨w4.heap.size, 0, none⟩) 1 1) (.string ⟨#[]⟩) (.string ⟨#[]⟩) (.string ⟨#[]⟩) (.string ⟨#[]⟩) (.int .i64 0) (.string ⟨#[]⟩) (.int .i64 0)
  exact bodyPost_ret (v := .agg #[.slice (some ⟨w2.heap.size, 0, none⟩) n1 n1, .slice none 0 0, .slice (some ⟨w4.heap.size, 0, none⟩) 1 1, .string ⟨#[]⟩, .string ⟨#[]⟩, .string ⟨#[]⟩, .string ⟨#[]⟩, .int .i64 0, .string ⟨#[]⟩, .int .i64 0]) (results_cell_row (P := Try.prog) Try.results47 _ _ (w.heap.size + 1) 65 _ (0, 0) _ rfl (arr_put10 HJ5.out.2.1 (.slice (some ⟨w2.heap.size, 0, none⟩) n1 n1) (.slice none 0 0) (.slice (some ⟨w4.heap.size, 0, none⟩) 1 1) (.string ⟨#[]⟩) (.string ⟨#[]⟩) (.string ⟨#[]⟩) (.string ⟨#[]⟩) (.int .i64 0) (.string ⟨#[]⟩) (.int .i64 0)) Try.underlying65 rfl (by kernel_rfl)) rfl
    ⟨⟨some ⟨w2.heap.size, 0, none⟩, n1, none, 0, some ⟨w4.heap.size, 0, none⟩, 1, by unfold roV; rw [HX.out]; rfl, by rw [HX.out]; exact h1.mono (by omega), ownC_nil _ _ _ _ _, h3.mono (by omega)⟩, below_put10 HJ5.out.2.2 (Nat.le_succ _) (.slice (some ⟨w2.heap.size, 0, none⟩) n1 n1) (.slice none 0 0) (.slice (some ⟨w4.heap.size, 0, none⟩) 1 1) (.string ⟨#[]⟩) (.string ⟨#[]⟩) (.string ⟨#[]⟩) (.string ⟨#[]⟩) (.int .i64 0) (.string ⟨#[]⟩) (.int .i64 0)⟩
set_option maxRecDepth 100000 in
set_option maxHeartbeats 800000 in
theorem spec_take (xs : List SeL) (ys : List MsL) (r : ByteArray) (p1 p2 : Option Addr) (n1 n2 c1 c2 : Nat) (w : World) (hx : xs.length = n1) (hy : ys.length = n2) (hn1 : n1 ≤ 1048576) (hn2 : n2 ≤ 1048576) (hr : r.size ≤ 1048576) (hw : SzS xs) (hw2 : SzM ys) (B0 : Nat) (hO1 : OwnC seC w B0 42 4 (.slice p1 n1 c1) xs) (hO2 : OwnC msC w B0 63 6 (.slice p2 n2 c2) ys) :
    Calls Try.prog 46 #[.agg #[.slice p1 n1 c1, .slice p2 n2 c2], .string r] w fun e w' => RoIs w.heap.size (takeR xs ys r) e w' ∧ Below w.heap.size w w' := by
  have hR1 := row_own9 hO1
  have hR2 := row_ownM hO2
  by_cases hbig : 20000 < r.size
  · rw [take_big hbig]
    clear hw hw2 hR1 hR2 hx hy hO1 hO2
    go_enter Try.func46, Try.ntmps46
    go_wp2
    exact bodyPost_ret (v := .agg #[.slice none 0 0, .slice none 0 0, .slice none 0 0, .string ⟨#[]⟩, .string ⟨#[]⟩, .string ⟨#[]⟩, .string ⟨#[]⟩, .int .i64 0, .string ⟨#[]⟩, .int .i64 2]) (by simp [results, Try.results46, go_sem]) rfl ⟨ro_ill _ _ _, ((Below.refl _ _).alloc (Nat.le_refl _) _).alloc (by simp) _⟩
  have i1 := fun W h1 h2 => spec_mbright xs ys p1 p2 n1 n2 c1 c2 W hx hy hn1 hn2 hw hw2 h1 h2
  have HP1 := Lib.hid (fun W (h : Below w.heap.size w W) => hR1.on h)
  have HP2 := Lib.hid (fun W (h : Below w.heap.size w W) => hR2.on h)
  have HO1 := Lib.hid (fun W (h : Below w.heap.size w W) => hO1.on h)
  have HO2 := Lib.hid (fun W (h : Below w.heap.size w W) => hO2.on h)
  have HJ := Lib.hid (tkb_start w p1 n1 c1 p2 n2 c2)
  cases hk : mbB xs ys
  · rw [take_bad hbig hk]
    rw [hk] at i1
    clear hk hw hw2 hR1 hR2 hx hy hO1 hO2
    go_enter Try.func46, Try.ntmps46
    go_wp2_with (first
      | (go_at_call 42; go_fit (i1 _ (HP1.out _ HJ.out.2.2) (HP2.out _ HJ.out.2.2)); rintro e w1 ⟨rfl, hb1⟩; have HJ1 := Lib.hid (HJ.out.on hb1); clear hb1; obtain ⟨⟨a0, a1⟩, hz⟩ := HJ1.out.two; obtain ⟨⟨r0, r1, r2, r3, r4, r5, r6, r7, r8, r9⟩, s0, s1, s2, s3, s4, s5, s6, s7, s8, s9⟩ := ten_all HJ1.out.2.1))
    exact bodyPost_ret (v := .agg #[.slice none 0 0, .slice none 0 0, .slice none 0 0, .string ⟨#[]⟩, .string ⟨#[]⟩, .string ⟨#[]⟩, .string ⟨#[]⟩, .int .i64 0, .string ⟨#[]⟩, .int .i64 1]) (results_cell_row (P := Try.prog) Try.results46 _ _ (w.heap.size + 1) 65 _ (0, 0) _ rfl (arr_put10 HJ1.out.2.1 (.slice none 0 0) (.slice none 0 0) (.slice none 0 0) (.string ⟨#[]⟩) (.string ⟨#[]⟩) (.string ⟨#[]⟩) (.string ⟨#[]⟩) (.int .i64 0) (.string ⟨#[]⟩) (.int .i64 1)) Try.underlying65 rfl (by kernel_rfl)) rfl ⟨ro_ill _ _ _, below_put10 HJ1.out.2.2 (Nat.le_succ _) (.slice none 0 0) (.slice none 0 0) (.slice none 0 0) (.string ⟨#[]⟩) (.string ⟨#[]⟩) (.string ⟨#[]⟩) (.string ⟨#[]⟩) (.int .i64 0) (.string ⟨#[]⟩) (.int .i64 1)⟩
  obtain ⟨hok, hn5, _⟩ := mb_parts hk
  have h5 := (okB_iff.1 hok).1
  rw [hk] at i1
  have i2 := fun W hR => spec_at9 xs r p1 c1 W (by omega) (okB_iff.1 hok).2.1 hR
  have i3 := fun W h1 h2 => spec_l10copy xs ys p1 p2 n1 n2 c1 c2 B0 W hx hy hn1 hn2 h1 h2
  rw [hx] at i2
  cases hh : hereB r xs
  · rw [take_none hbig hk hh]
    rw [show whereI r xs = -1 by unfold whereI; rw [hh]; rfl] at i2
    clear hh hk hok hw hw2 hR1 hR2 hx hy hO1 hO2 i3
    go_enter Try.func46, Try.ntmps46
    go_wp2_with (first
      | (go_at_call 42; go_fit (i1 _ (HP1.out _ HJ.out.2.2) (HP2.out _ HJ.out.2.2)); rintro e w1 ⟨rfl, hb1⟩; have HJ1 := Lib.hid (HJ.out.on hb1); clear hb1; obtain ⟨⟨a0, a1⟩, hz⟩ := HJ1.out.two)
      | (go_at_call 66; go_fit (i2 _ (HP1.out _ HJ1.out.2.2)); rintro e w2 ⟨rfl, hb2⟩; have HJ2 := Lib.hid (HJ1.out.on hb2); clear hb2; obtain ⟨⟨b0, b1⟩, hz2⟩ := HJ2.out.two; obtain ⟨⟨r0, r1, r2, r3, r4, r5, r6, r7, r8, r9⟩, s0, s1, s2, s3, s4, s5, s6, s7, s8, s9⟩ := ten_all HJ2.out.2.1))
    exact bodyPost_ret (v := .agg #[.slice none 0 0, .slice none 0 0, .slice none 0 0, .string ⟨#[]⟩, .string ⟨#[]⟩, .string ⟨#[]⟩, .string ⟨#[]⟩, .int .i64 0, .string ⟨#[]⟩, .int .i64 6]) (results_cell_row (P := Try.prog) Try.results46 _ _ (w.heap.size + 1) 65 _ (0, 0) _ rfl (arr_put10 HJ2.out.2.1 (.slice none 0 0) (.slice none 0 0) (.slice none 0 0) (.string ⟨#[]⟩) (.string ⟨#[]⟩) (.string ⟨#[]⟩) (.string ⟨#[]⟩) (.int .i64 0) (.string ⟨#[]⟩) (.int .i64 6)) Try.underlying65 rfl (by kernel_rfl)) rfl ⟨ro_ill _ _ _, below_put10 HJ2.out.2.2 (Nat.le_succ _) (.slice none 0 0) (.slice none 0 0) (.slice none 0 0) (.string ⟨#[]⟩) (.string ⟨#[]⟩) (.string ⟨#[]⟩) (.string ⟨#[]⟩) (.int .i64 0) (.string ⟨#[]⟩) (.int .i64 6)⟩
  have hlt := here_lt hh
  rw [take_here hbig hk hh hlt]
  rw [show whereI r xs = (posS r xs : Int) by unfold whereI; rw [hh]; rfl] at i2
  obtain ⟨P, hP⟩ : ∃ P, posS r xs = P := ⟨_, rfl⟩
  simp only [hP] at i2 hlt ⊢
  have HROW := Lib.hid (fun W (h : RowC seC 4 W p1 xs) => row_se4 h hlt)
  obtain ⟨x, hxx⟩ : ∃ x, xs[P] = x := ⟨_, rfl⟩
  rw [hxx] at HROW ⊢
  have hlt1 : (P : Int) < (n1 : Int) := by rw [← hx]; omega
  have hP0 : (0 : Int) ≤ (P : Int) := by omega
  obtain ⟨bo, hbo⟩ : ∃ b, x.o = b := ⟨_, rfl⟩
  rw [hbo] at HROW ⊢
  have HX := Lib.hid hx
  have HY := Lib.hid hy
  clear hh hk hok hP hxx hbo hw hw2 hR1 hR2 hO1 hO2 hx hy hlt
  cases bo
  · rw [Bool.false_and, if_neg (by decide)]
    go_enter Try.func46, Try.ntmps46
    go_wp2_with (first
      | (go_at_call 42; go_fit (i1 _ (HP1.out _ HJ.out.2.2) (HP2.out _ HJ.out.2.2)); rintro e w1 ⟨rfl, hb1⟩; have HJ1 := Lib.hid (HJ.out.on hb1); clear hb1; obtain ⟨⟨a0, a1⟩, hz⟩ := HJ1.out.two)
      | (go_at_call 66; go_fit (i2 _ (HP1.out _ HJ1.out.2.2)); rintro e w2 ⟨rfl, hb2⟩; have HJ2 := Lib.hid (HJ1.out.on hb2); clear hb2; obtain ⟨⟨b0, b1⟩, hz2⟩ := HJ2.out.two; obtain ⟨⟨r0, r1, r2, r3, r4, r5, r6, r7, r8, r9⟩, s0, s1, s2, s3, s4, s5, s6, s7, s8, s9⟩ := ten_all HJ2.out.2.1; obtain ⟨g, hgp, hg, x0, x1, x2, x3⟩ := HROW.out _ (HP1.out _ HJ2.out.2.2); subst hgp))
    exact bodyPost_ret (v := .agg #[.slice none 0 0, .slice none 0 0, .slice none 0 0, .string ⟨#[]⟩, .string ⟨#[]⟩, .string ⟨#[]⟩, .string ⟨#[]⟩, .int .i64 0, .string ⟨#[]⟩, .int .i64 6]) (results_cell_row (P := Try.prog) Try.results46 _ _ (w.heap.size + 1) 65 _ (0, 0) _ rfl (arr_put10 HJ2.out.2.1 (.slice none 0 0) (.slice none 0 0) (.slice none 0 0) (.string ⟨#[]⟩) (.string ⟨#[]⟩) (.string ⟨#[]⟩) (.string ⟨#[]⟩) (.int .i64 0) (.string ⟨#[]⟩) (.int .i64 6)) Try.underlying65 rfl (by kernel_rfl)) rfl ⟨ro_ill _ _ _, below_put10 HJ2.out.2.2 (Nat.le_succ _) (.slice none 0 0) (.slice none 0 0) (.slice none 0 0) (.string ⟨#[]⟩) (.string ⟨#[]⟩) (.string ⟨#[]⟩) (.string ⟨#[]⟩) (.int .i64 0) (.string ⟨#[]⟩) (.int .i64 6)⟩
  by_cases hpr : 0 ≤ x.p
  rotate_left
  · rw [decide_eq_false hpr, Bool.and_false, if_neg (by decide)]
    have hpr2 : x.p < 0 := by omega
    clear hpr
    go_enter Try.func46, Try.ntmps46
    go_wp2_with (first
      | (go_at_call 42; go_fit (i1 _ (HP1.out _ HJ.out.2.2) (HP2.out _ HJ.out.2.2)); rintro e w1 ⟨rfl, hb1⟩; have HJ1 := Lib.hid (HJ.out.on hb1); clear hb1; obtain ⟨⟨a0, a1⟩, hz⟩ := HJ1.out.two)
      | (go_at_call 66; go_fit (i2 _ (HP1.out _ HJ1.out.2.2)); rintro e w2 ⟨rfl, hb2⟩; have HJ2 := Lib.hid (HJ1.out.on hb2); clear hb2; obtain ⟨⟨b0, b1⟩, hz2⟩ := HJ2.out.two; obtain ⟨⟨r0, r1, r2, r3, r4, r5, r6, r7, r8, r9⟩, s0, s1, s2, s3, s4, s5, s6, s7, s8, s9⟩ := ten_all HJ2.out.2.1; obtain ⟨g, hgp, hg, x0, x1, x2, x3⟩ := HROW.out _ (HP1.out _ HJ2.out.2.2); subst hgp))
    exact bodyPost_ret (v := .agg #[.slice none 0 0, .slice none 0 0, .slice none 0 0, .string ⟨#[]⟩, .string ⟨#[]⟩, .string ⟨#[]⟩, .string ⟨#[]⟩, .int .i64 0, .string ⟨#[]⟩, .int .i64 6]) (results_cell_row (P := Try.prog) Try.results46 _ _ (w.heap.size + 1) 65 _ (0, 0) _ rfl (arr_put10 HJ2.out.2.1 (.slice none 0 0) (.slice none 0 0) (.slice none 0 0) (.string ⟨#[]⟩) (.string ⟨#[]⟩) (.string ⟨#[]⟩) (.string ⟨#[]⟩) (.int .i64 0) (.string ⟨#[]⟩) (.int .i64 6)) Try.underlying65 rfl (by kernel_rfl)) rfl ⟨ro_ill _ _ _, below_put10 HJ2.out.2.2 (Nat.le_succ _) (.slice none 0 0) (.slice none 0 0) (.slice none 0 0) (.string ⟨#[]⟩) (.string ⟨#[]⟩) (.string ⟨#[]⟩) (.string ⟨#[]⟩) (.int .i64 0) (.string ⟨#[]⟩) (.int .i64 6)⟩
  rw [decide_eq_true hpr, Bool.true_and, if_pos rfl]
  have hpr2 : ¬ x.p < 0 := by omega
  clear hpr
  go_enter Try.func46, Try.ntmps46
  go_wp2_with (first
    | (go_at_call 42; go_fit (i1 _ (HP1.out _ HJ.out.2.2) (HP2.out _ HJ.out.2.2)); rintro e w1 ⟨rfl, hb1⟩; have HJ1 := Lib.hid (HJ.out.on hb1); clear hb1; obtain ⟨⟨a0, a1⟩, hz⟩ := HJ1.out.two)
    | (go_at_call 66; go_fit (i2 _ (HP1.out _ HJ1.out.2.2)); rintro e w2 ⟨rfl, hb2⟩; have HJ2 := Lib.hid (HJ1.out.on hb2); clear hb2; obtain ⟨⟨b0, b1⟩, hz2⟩ := HJ2.out.two; obtain ⟨⟨r0, r1, r2, r3, r4, r5, r6, r7, r8, r9⟩, s0, s1, s2, s3, s4, s5, s6, s7, s8, s9⟩ := ten_all HJ2.out.2.1; obtain ⟨g, hgp, hg, x0, x1, x2, x3⟩ := HROW.out _ (HP1.out _ HJ2.out.2.2); subst hgp)
    | (go_at_call 89; go_fit (i3 _ (HO1.out _ HJ2.out.2.2) (HO2.out _ HJ2.out.2.2)); rintro e w3 ⟨⟨q1, l1, q2, l2, rfl, hv1, hv2⟩, hb3⟩; have HJ3 := Lib.hid (HJ2.out.on hb3); have HV3 := Lib.hid hv1; have hz3 := HJ3.out.two.2; have HJ5 := Lib.hid ((HJ3.out.on ((Below.refl _ _).alloc (Nat.le_refl _) (.cells #[.string r] 9))).on ((Below.refl _ _).alloc (Nat.le_refl _) (.cells #[.slice q1 n1 l1, .slice none 0 0, .slice (some ⟨w3.heap.size, 0, none⟩) 1 1, .string ⟨#[]⟩, .string ⟨#[]⟩, .string ⟨#[]⟩, .string ⟨#[]⟩, .int .i64 0, .string ⟨#[]⟩, .int .i64 0] 65))); obtain ⟨⟨r0, r1, r2, r3, r4, r5, r6, r7, r8, r9⟩, s0, s1, s2, s3, s4, s5, s6, s7, s8, s9⟩ := ten_all HJ5.out.2.1; clear hb3 hv1 hv2))
  have hn2 : w.heap.size + 1 < w2.heap.size := (HJ2.out.two).2
  have h1 := own_put10 ((HV3.out.alloc (.cells #[.string r] 9)).alloc (.cells #[.slice q1 n1 l1, .slice none 0 0, .slice (some ⟨w3.heap.size, 0, none⟩) 1 1, .string ⟨#[]⟩, .string ⟨#[]⟩, .string ⟨#[]⟩, .string ⟨#[]⟩, .int .i64 0, .string ⟨#[]⟩, .int .i64 0] 65)) hn2 (.slice q1 n1 l1) (.slice none 0 0) (.slice (some ⟨w3.heap.size, 0, none⟩) 1 1) (.string ⟨#[]⟩) (.string ⟨#[]⟩) (.string ⟨#[]⟩) (.string ⟨#[]⟩) (.int .i64 0) (.string ⟨#[]⟩) (.int .i64 0)
  have h3 := own_put10 ((str_row1 w3 r).alloc (.cells #[.slice q1 n1 l1, .slice none 0 0, .slice (some ⟨w3.heap.size, 0, none⟩) 1 1, .string ⟨#[]⟩, .string ⟨#[]⟩, .string ⟨#[]⟩, .string ⟨#[]⟩, .int .i64 0, .string ⟨#[]⟩, .int .i64 0] 65)) hz3 (.slice q1 n1 l1) (.slice none 0 0) (.slice (some ⟨w3.heap.size, 0, none⟩) 1 1) (.string ⟨#[]⟩) (.string ⟨#[]⟩) (.string ⟨#[]⟩) (.string ⟨#[]⟩) (.int .i64 0) (.string ⟨#[]⟩) (.int .i64 0)
  exact bodyPost_ret (v := .agg #[.slice q1 n1 l1, .slice none 0 0, .slice (some ⟨w3.heap.size, 0, none⟩) 1 1, .string ⟨#[]⟩, .string ⟨#[]⟩, .string ⟨#[]⟩, .string ⟨#[]⟩, .int .i64 0, .string ⟨#[]⟩, .int .i64 0]) (results_cell_row (P := Try.prog) Try.results46 _ _ (w.heap.size + 1) 65 _ (0, 0) _ rfl (arr_put10 HJ5.out.2.1 (.slice q1 n1 l1) (.slice none 0 0) (.slice (some ⟨w3.heap.size, 0, none⟩) 1 1) (.string ⟨#[]⟩) (.string ⟨#[]⟩) (.string ⟨#[]⟩) (.string ⟨#[]⟩) (.int .i64 0) (.string ⟨#[]⟩) (.int .i64 0)) Try.underlying65 rfl (by kernel_rfl)) rfl
    ⟨⟨q1, l1, none, 0, some ⟨w3.heap.size, 0, none⟩, 1, by unfold roV; rw [HX.out]; rfl, by rw [HX.out]; exact h1.mono (by omega), ownC_nil _ _ _ _ _, h3.mono (by omega)⟩, below_put10 HJ5.out.2.2 (Nat.le_succ _) (.slice q1 n1 l1) (.slice none 0 0) (.slice (some ⟨w3.heap.size, 0, none⟩) 1 1) (.string ⟨#[]⟩) (.string ⟨#[]⟩) (.string ⟨#[]⟩) (.string ⟨#[]⟩) (.int .i64 0) (.string ⟨#[]⟩) (.int .i64 0)⟩
end Go.Proofs.Ytkdljhmenejckaa

namespace Go.Proofs.Ytkdljhmenejckaa
set_option linter.unusedSimpArgs false
set_option linter.unusedVariables false
open Go.RowKit Go.Joins

set_option maxRecDepth 100000 in
set_option maxHeartbeats 8000000 in
theorem take_law (w : World) (a : Option Addr) (len cap : Nat) (xs : List SeL) (b : Option Addr) (lem cam : Nat) (ys : List MsL) (x0 : MbArg w a len xs b lem ys) (r : ByteArray) (wr : r.size ≤ maxLen) (hm : MaxL w) :
    Calls Try.prog 7 #[.agg #[.slice a len cap, .slice b lem cam], .string r] w fun e w' => e = .returned (.bool true) ∧ Below w.heap.size w w' := by
  have HX := Lib.hid x0
  have HM := Lib.hid (fun W (h : Below w.heap.size w W) => hm.below h hm.pos)
  unfold maxLen at wr
  by_cases hfb : 1048576 < r.size
  · clear x0 hm HX HM
    go_enter Try.func7, Try.ntmps7
    go_wp2
    go_ret
    exact ⟨rfl, (Below.refl _ _).alloc (Nat.le_refl _) _⟩
  have hfs : r.size ≤ 1048576 := by omega
  have i1 := fun W hb => sz_mb (cap := cap) (cam := cam) HX.out W hb
  have i2 := fun hl W hb => to_mb (cap := cap) (cam := cam) HX.out hl W hb
  have hx := HX.out.1.1
  have hy := HX.out.2.1
  have i3 := fun p1 p2 k1 k2 B W (hl : len ≤ 1048576 ∧ lem ≤ 1048576) hw hw2 h1 h2 => spec_take xs ys r p1 p2 len lem k1 k2 W hx hy hl.1 hl.2 hfs hw hw2 B h1 h2
  have i4 := fun p1 p2 k1 k2 W (hl : len ≤ 1048576 ∧ lem ≤ 1048576) hw hw2 h1 h2 hm => impl_take xs ys r p1 p2 len lem k1 k2 W hx hy hl.1 hl.2 hfs hw hw2 h1 h2 hm
  have i5 := fun p1 p2 q1 q2 k1 k2 l1 l2 W (hl : len ≤ 1048576 ∧ lem ≤ 1048576) h1 h2 h3 h4 => eq_mb xs ys p1 p2 q1 q2 len lem k1 k2 l1 l2 W (by omega) (by omega) hx hy h1 h2 h3 h4
  have i7 := fun p1 p2 k1 k2 B W (hl : len ≤ 1048576 ∧ lem ≤ 1048576) hB h1 h2 => mark_mb xs ys p1 p2 len lem k1 k2 B W hl.1 hl.2 hx hy hB h1 h2
  have hRl : (takeR xs ys r).le := by
    unfold takeR
    split
    · exact ⟨Nat.zero_le _, Nat.zero_le _, Nat.zero_le _⟩
    · split
      · exact ⟨Nat.zero_le _, Nat.zero_le _, Nat.zero_le _⟩
      · rename_i h1 h2
        obtain ⟨q1, q2, _⟩ := mb_parts (show mbB xs ys = true by simpa using h2)
        have q3 := (okB_iff.1 q1).1
        split
        · split
          · exact ⟨by show xs.length ≤ 6; omega, Nat.zero_le _, by show 1 ≤ 6; omega⟩
          · exact ⟨Nat.zero_le _, Nat.zero_le _, Nat.zero_le _⟩
        · exact ⟨Nat.zero_le _, Nat.zero_le _, Nat.zero_le _⟩
  obtain ⟨R, hR⟩ : ∃ R, takeR xs ys r = R := ⟨_, rfl⟩
  rw [hR] at i3 i4 hRl
  unfold RoIs at i3 i4
  have j1 := fun p1 p2 p3 q1 q2 q3 k1 k2 k3 l1 l2 l3 B1 B2 W hp hq => eq_ro R p1 p2 p3 q1 q2 q3 k1 k2 k3 l1 l2 l3 B1 B2 W hRl hp hq
  have j2 := fun p1 p2 p3 k1 k2 k3 B W hB h => mark_ro R p1 p2 p3 k1 k2 k3 B W hRl hB h
  have j3 := fun p1 p2 p3 k1 k2 k3 B W h => held_ro R p1 p2 p3 k1 k2 k3 B W hRl h
  unfold roV at i3 i4 j1 j2 j3
  have HD0 := Lib.hid (lwM_start w a len cap b lem cam)
  have hpos1 : ¬ ((1 : Int) + len * 4 + lem * 6 < 0) := by omega
  have hpos2 : ¬ ((1 : Int) + R.l.length * 4 + R.ks.length * 6 + R.to.length < 0) := by omega
  clear x0 hR hRl hm hx hy
  go_enter Try.func7, Try.ntmps7
  go_wp2_with (first
    | (go_at_call 48; have _ := HD5; go_fit (j1 g1 g2 g3 p1 p2 p3 gk1 gk2 gk3 pk1 pk2 pk3 _ _ _ (HV5.out.on ((Below.refl _ _).alloc (Nat.le_refl _) _)) (H65.out.2.on ((Below.refl _ _).alloc (Nat.le_refl _) _))); rintro e w6 ⟨rfl, hb⟩; have HD6 := Lib.hid ((HD5.out.on ((Below.refl _ _).alloc (Nat.le_refl _) _)).on hb); have H66 := Lib.hid ((H65.out.on ((Below.refl _ _).alloc (Nat.le_refl _) _)).on hb); have H76 := Lib.hid ((H75.out.on ((Below.refl _ _).alloc (Nat.le_refl _) _)).on hb); have H86 := Lib.hid ((RoBox.new HV5.out).on hb); have HW6 : Hid (w5.heap.size < w6.heap.size) := Lib.hid (Nat.lt_of_lt_of_le (by simp) hb.size); clear hb)
    | (go_at_call 47; have _ := HD4; go_fit (i4 m1 m2 mk1 mk2 _ hz2 hz3 hz4 (row_ownS (HV4.out.1.alloc _)) (row_ownM (HV4.out.2.alloc _)) (HM.out _ (HD4.out.2.alloc HD4.out.2.size _))); rintro e w5 ⟨⟨g1, gk1, g2, gk2, g3, gk3, rfl, hv⟩, hb⟩; have HD5 := Lib.hid ((HD4.out.on ((Below.refl _ _).alloc (Nat.le_refl _) _)).on hb); have H65 := Lib.hid ((H64.out.on ((Below.refl _ _).alloc (Nat.le_refl _) _)).on hb); have H75 := Lib.hid ((MxBox.new HV4.out).on hb); have HV5 : Hid (RoOwn (w4.heap.size + 1) w5 R g1 gk1 g2 gk2 g3 gk3) := Lib.hid (by rw [World.size_alloc] at hv; exact hv); have HW5 : Hid (w4.heap.size + 1 ≤ w5.heap.size) := Lib.hid (Nat.le_trans (by simp) hb.size); clear hb hv; obtain ⟨⟨c0, c1⟩, _⟩ := arr9_two HD5.out.1; have hzA := arr9_lt HD5.out.1; obtain ⟨⟨a0, a1, a2, a3, a4, a5, a6, a7, a8, a9⟩, az⟩ := arr_ten (H65.out.1); obtain ⟨⟨b0, b1⟩, _⟩ := arr9_two H75.out.1; have hzb := arr9_lt H75.out.1)
    | (go_at_call 43; have _ := HD3; go_fit (i2 hz2 _ (HD3.out.2.alloc HD3.out.2.size _)); rintro e w4 ⟨⟨m1, mk1, m2, mk2, rfl, hv⟩, hb⟩; have HD4 := Lib.hid ((HD3.out.on ((Below.refl _ _).alloc (Nat.le_refl _) _)).on hb); have H64 := Lib.hid ((RoBox.new HV3.out).on hb); have HV4 : Hid (MbIs (w3.heap.size + 1) xs ys m1 len mk1 m2 lem mk2 w4) := Lib.hid (by rw [World.size_alloc] at hv; exact hv); have HW4 : Hid (w3.heap.size + 1 ≤ w4.heap.size) := Lib.hid (Nat.le_trans (by simp) hb.size); clear hb hv; obtain ⟨⟨c0, c1⟩, _⟩ := arr9_two HD4.out.1; have hzA := arr9_lt HD4.out.1; obtain ⟨⟨a0, a1, a2, a3, a4, a5, a6, a7, a8, a9⟩, az⟩ := arr_ten (H64.out.1))
    | (go_at_call 46; have _ := HD2; go_fit (i3 q1 q2 qk1 qk2 w1.heap.size _ hz2 hz3 hz4 HV2.out.1 HV2.out.2); rintro e w3 ⟨⟨p1, pk1, p2, pk2, p3, pk3, rfl, hv⟩, hb⟩; have HD3 := Lib.hid (HD2.out.on hb); have HV3 := Lib.hid (show RoOwn _ w3 R p1 pk1 p2 pk2 p3 pk3 from hv); clear hb hv; obtain ⟨⟨c0, c1⟩, _⟩ := arr9_two HD3.out.1; have hzA := arr9_lt HD3.out.1)
    | (go_at_call 43; have _ := HD1; go_fit (i2 hz2 _ HD1.out.2); rintro e w2 ⟨⟨q1, qk1, q2, qk2, rfl, hv⟩, hb⟩; have HD2 := Lib.hid (HD1.out.on hb); have HV2 := Lib.hid hv; clear hb hv)
    | (go_at_call 41; go_fit (i1 _ HD0.out.2); rintro e w1 ⟨⟨z, rfl, hz⟩, hb⟩; have HD1 := Lib.hid (HD0.out.on hb); clear hb; obtain ⟨⟨c0, c1⟩, _⟩ := arr9_two HD1.out.1; have hzA := arr9_lt HD1.out.1; rcases hz with rfl | ⟨⟨hz0, hz1⟩, hz2, hz3, hz4⟩))
  · go_ret
    exact ⟨rfl, HD1.out.2⟩
  · refine wp_region_held_drew (S := fun W => MxBox w4.heap.size (w3.heap.size + 1) W xs ys m1 len mk1 m2 lem mk2 ∧ LwM w W a len cap b lem cam) (by kernel_rfl) ⟨H76.out.on (Below.refl _ _).drew, HD6.out.on (Below.refl _ _).drew⟩ (fun hHeld => ?_)
    have H6d := Lib.hid (H66.out.on (Below.refl _ _).drew)
    have H8d := Lib.hid (H86.out.on (Below.refl _ _).drew)
    have HWd : Hid (w5.heap.size < w6.drew.heap.size) := HW6
    generalize w6.drew = wd at H6d H8d HWd hHeld ⊢
    refine takeQ (i := 0) (k := 34) (v := .agg #[.slice m1 len mk1, .slice m2 lem mk2]) rfl (by rfl) (by kernel_rfl) (by kernel_rfl) (by kernel_rfl) (fun _ _ _ h => h) (by rfl) ?_ hHeld ?_
    · intro w1 hSw; obtain ⟨⟨m0, m1⟩, _⟩ := arr9_two hSw.1.1; go_simp
    (try simp only [Act.put, List.setIfInBounds_toArray, List.set_cons_zero, List.set_cons_succ])
    refine takeQ (i := 1) (k := 35) (v := .agg #[.slice a len cap, .slice b lem cam]) rfl (by rfl) (by kernel_rfl) (by kernel_rfl) (by kernel_rfl) (fun _ _ _ h => h) (by rfl) ?_ hHeld ?_
    · intro w1 hSw; obtain ⟨⟨m0, m1⟩, _⟩ := arr9_two hSw.2.1; go_simp
    (try simp only [Act.put, List.setIfInBounds_toArray, List.set_cons_zero, List.set_cons_succ])
    refine wpAnyH_ready (rs := [2]) (by kernel_rfl) (by simp) ?_
    refine AllReadyH.cons rfl (fun K hK => ?_) AllReadyH.nil
    rw [if_pos (by rfl)]
    go_simp
    go_fit (i2 hz2 _ hHeld.2.2)
    rintro e w7 ⟨⟨n1, nk1, n2, nk2, rfl, hv⟩, hb7⟩
    have HV7 := Lib.hid hv
    have HS7 := Lib.hid (And.intro (hHeld.1.on hb7) (hHeld.2.on hb7))
    have H67 := Lib.hid (H6d.out.on hb7)
    have H87 := Lib.hid (H8d.out.on hb7)
    have HW7 : Hid (w5.heap.size < w7.heap.size) := Lib.hid (Nat.lt_of_lt_of_le HWd.out hb7.size)
    clear hHeld hb7 hv H6d H8d HWd
    refine hK.out _ _ HS7.out (fun hHeld => ?_)
    clear hK K
    (try simp only [Act.put, List.setIfInBounds_toArray, List.set_cons_zero, List.set_cons_succ])
    refine wpAnyH_ready (rs := [3]) (by kernel_rfl) (by simp) ?_
    refine AllReadyH.cons rfl (fun K hK => ?_) AllReadyH.nil
    rw [if_pos (by rfl)]
    go_simp
    go_fit (i5 m1 m2 n1 n2 mk1 mk2 nk1 nk2 _ hz2 (row_ownS hHeld.1.2.1) (row_ownS HV7.out.1) (row_ownM hHeld.1.2.2) (row_ownM HV7.out.2))
    rintro e w8 ⟨rfl, hb8⟩
    have HS8 := Lib.hid (And.intro (hHeld.1.on hb8) (hHeld.2.on hb8))
    have H68 := Lib.hid (H67.out.on hb8)
    have H88 := Lib.hid (H87.out.on hb8)
    have HW8 : Hid (w5.heap.size < w8.heap.size) := Lib.hid (Nat.lt_of_lt_of_le HW7.out hb8.size)
    clear hHeld hb8 H67 H87 HW7
    refine hK.out _ _ HS8.out (fun hHeld => ?_)
    clear hK K
    (try simp only [Act.put, List.setIfInBounds_toArray, List.set_cons_zero, List.set_cons_succ])
    refine takeQ (i := 4) (k := 38) (v := .bool false) rfl (by rfl) (by kernel_rfl) (by kernel_rfl) (by kernel_rfl) (fun _ _ _ h => h) (by rfl) ?_ hHeld ?_
    · intro w1 hSw; go_simp
    (try simp only [Act.put, List.setIfInBounds_toArray, List.set_cons_zero, List.set_cons_succ])
    refine wpAnyH_done (by kernel_rfl) ?_ _
    have H78 := Lib.hid HS8.out.1
    have HD8 := Lib.hid HS8.out.2
    have HL3 : Hid (w.heap.size < w3.heap.size) := Lib.hid (arr9_lt HD3.out.1)
    clear hHeld HS8 HS7 HV7
    obtain ⟨⟨c0, c1⟩, _⟩ := arr9_two HD8.out.1; have hzA := arr9_lt HD8.out.1
    obtain ⟨⟨a0, a1, a2, a3, a4, a5, a6, a7, a8, a9⟩, az⟩ := arr_ten (H68.out.1)
    obtain ⟨⟨b0, b1⟩, _⟩ := arr9_two H78.out.1
    have hzb := arr9_lt H78.out.1
    obtain ⟨⟨e0, e1, e2, e3, e4, e5, e6, e7, e8, e9⟩, ez⟩ := arr_ten (H88.out.1)
    have HR3 : Hid (RoLow (w3.heap.size + 1) p1 p2 p3 R pk1 pk2 pk3) := Lib.hid (roLow_of HV3.out)
    go_wp2_with (first
      | (go_at_call 51; have _ := HD15; go_fit (j3 g1 g2 g3 gk1 gk2 gk3 _ _ H815.out.2); rintro e w16 ⟨rfl, hb⟩; have HD16 := Lib.hid (HD15.out.on hb); clear hb)
      | (go_at_call 48; have _ := HD14; go_fit (j1 v1 v2 v3 p1 p2 p3 vk1 vk2 vk3 pk1 pk2 pk3 _ _ _ (HV14.out.on ((Below.refl _ _).alloc (Nat.le_refl _) _)) (H614.out.2.on ((Below.refl _ _).alloc (Nat.le_refl _) _))); rintro e w15 ⟨rfl, hb⟩; have HD15 := Lib.hid ((HD14.out.on ((Below.refl _ _).alloc (Nat.le_refl _) _)).on hb); have H815 := Lib.hid ((H814.out.on ((Below.refl _ _).alloc (Nat.le_refl _) _)).on hb); clear hb; obtain ⟨⟨e0, e1, e2, e3, e4, e5, e6, e7, e8, e9⟩, ez⟩ := arr_ten (H815.out.1))
      | (go_at_call 47; have _ := HD13; go_fit (i4 h1 h2 hk1 hk2 _ hz2 hz3 hz4 (row_ownS HV13.out.1) (row_ownM HV13.out.2) (HM.out _ HD13.out.2)); rintro e w14 ⟨⟨v1, vk1, v2, vk2, v3, vk3, rfl, hv⟩, hb⟩; have HD14 := Lib.hid (HD13.out.on hb); have H614 := Lib.hid (H613.out.on hb); have H814 := Lib.hid (H813.out.on hb); have HV14 := Lib.hid (show RoOwn _ w14 R v1 vk1 v2 vk2 v3 vk3 from hv); clear hb hv; obtain ⟨⟨a0, a1, a2, a3, a4, a5, a6, a7, a8, a9⟩, az⟩ := arr_ten (H614.out.1); obtain ⟨⟨e0, e1, e2, e3, e4, e5, e6, e7, e8, e9⟩, ez⟩ := arr_ten (H814.out.1))
      | (go_at_call 43; have _ := HD12; go_fit (i2 hz2 _ HD12.out.2); rintro e w13 ⟨⟨h1, hk1, h2, hk2, rfl, hv⟩, hb⟩; have HD13 := Lib.hid (HD12.out.on hb); have H613 := Lib.hid (H612.out.on hb); have H813 := Lib.hid (H812.out.on hb); have HV13 := Lib.hid hv; clear hb hv)
      | (go_at_call 51; have _ := HD11; go_fit (j3 g1 g2 g3 gk1 gk2 gk3 _ _ H811.out.2); rintro e w12 ⟨rfl, hb⟩; have HD12 := Lib.hid (HD11.out.on hb); have H612 := Lib.hid (H611.out.on hb); have H812 := Lib.hid (H811.out.on hb); clear hb; obtain ⟨⟨c0, c1⟩, _⟩ := arr9_two HD12.out.1; have hzA := arr9_lt HD12.out.1)
      | (go_at_call 50; have _ := HD10; go_fit (j2 g1 g2 g3 gk1 gk2 gk3 (w4.heap.size + 1) _ (by have := HW10.out; have := HW5.out; omega) H810.out.2); rintro e w11 ⟨rfl, hM, hF⟩; have HD11 := Lib.hid (HD10.out.low hF.1 (by have := HL3.out; have := HW4.out; omega)); have H611 := Lib.hid (H610.out.low hF.1 (by have := HW4.out; omega) (HR3.out.mono (by have := HW4.out; omega))); have H811 := Lib.hid (H810.out.mark hM hF); clear hM hF; obtain ⟨⟨c0, c1⟩, _⟩ := arr9_two HD11.out.1; have hzA := arr9_lt HD11.out.1; obtain ⟨⟨a0, a1, a2, a3, a4, a5, a6, a7, a8, a9⟩, az⟩ := arr_ten (H611.out.1); obtain ⟨⟨e0, e1, e2, e3, e4, e5, e6, e7, e8, e9⟩, ez⟩ := arr_ten (H811.out.1))
      | (go_at_call 48; have _ := HD9; go_fit (j1 g1 g2 g3 p1 p2 p3 gk1 gk2 gk3 pk1 pk2 pk3 _ _ _ H89.out.2 H69.out.2); rintro e w10 ⟨rfl, hb⟩; have HD10 := Lib.hid (HD9.out.on hb); have H610 := Lib.hid (H69.out.on hb); have H810 := Lib.hid (H89.out.on hb); have HW10 : Hid (w5.heap.size < w10.heap.size) := Lib.hid (Nat.lt_of_lt_of_le HW9.out hb.size); clear hb; obtain ⟨⟨c0, c1⟩, _⟩ := arr9_two HD10.out.1; have hzA := arr9_lt HD10.out.1; obtain ⟨⟨a0, a1, a2, a3, a4, a5, a6, a7, a8, a9⟩, az⟩ := arr_ten (H610.out.1); obtain ⟨⟨e0, e1, e2, e3, e4, e5, e6, e7, e8, e9⟩, ez⟩ := arr_ten (H810.out.1))
      | (go_at_call 49; go_fit (i7 m1 m2 mk1 mk2 (w3.heap.size + 1) _ hz2 (by have := HW8.out; have := HW5.out; have := HW4.out; omega) H78.out.2.1 H78.out.2.2); rintro e w9 ⟨rfl, -, hF⟩; have HD9 := Lib.hid (HD8.out.low hF.1 (by have := HL3.out; omega)); have H69 := Lib.hid (H68.out.low hF.1 (Nat.lt_succ_self _) HR3.out); have H89 := Lib.hid (H88.out.beside hF HW5.out (fun j hj => by have := (own_ltT HV4.out.1 j hj).2; omega) (fun j hj => by have := (own_ltT HV4.out.2 j hj).2; omega)); have HW9 : Hid (w5.heap.size < w9.heap.size) := Lib.hid (Nat.lt_of_lt_of_le HW8.out hF.2.1); clear hF; obtain ⟨⟨c0, c1⟩, _⟩ := arr9_two HD9.out.1; have hzA := arr9_lt HD9.out.1; obtain ⟨⟨a0, a1, a2, a3, a4, a5, a6, a7, a8, a9⟩, az⟩ := arr_ten (H69.out.1); obtain ⟨⟨e0, e1, e2, e3, e4, e5, e6, e7, e8, e9⟩, ez⟩ := arr_ten (H89.out.1)))
    go_ret
    exact ⟨rfl, HD16.out.2⟩
end Go.Proofs.Ytkdljhmenejckaa
