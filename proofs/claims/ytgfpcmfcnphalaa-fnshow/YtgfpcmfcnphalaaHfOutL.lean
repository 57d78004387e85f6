/- The small functions of the laws on answers with a half: comparison, marks. -/
import Derived.Test.YtgfpcmfcnphalaaHfAns
import Derived.Test.YtgfpcmfcnphalaaHfLawR
import Derived.Test.YtgfpcmfcnphalaaRwSub
import Derived.Test.YtgfpcmfcnphalaaEqSub
namespace Go.Proofs.Ytgfpcmfcnphalaa
set_option linter.unusedSimpArgs false
set_option linter.unusedVariables false
open Go.RowKit Go.Joins

theorem ho_cells {W : World} {b t m k : Nat} {h : HfL} {p : Option Addr} {c : Int} (hA : Arr W b t (hoC h p m k c)) :
    W.cell? ⟨b, 0, none⟩ = some (.int .i64 h.n) ∧ W.cell? ⟨b, 1, none⟩ = some (.int .i64 h.o) ∧ W.cell? ⟨b, 2, none⟩ = some (.int .i64 h.t) ∧ W.cell? ⟨b, 3, none⟩ = some (.int .i64 h.i) ∧ W.cell? ⟨b, 4, none⟩ = some (.int .i64 h.f) ∧ W.cell? ⟨b, 5, none⟩ = some (.slice p m k) ∧ W.cell? ⟨b, 6, none⟩ = some (.int .i64 c) :=
  ⟨hA.cell 0, hA.cell 1, hA.cell 2, hA.cell 3, hA.cell 4, hA.cell 5, hA.cell 6⟩
set_option maxHeartbeats 400000 in
theorem eq_half (h : HfL) (w : World) : Calls Try.prog 50 #[hfL h, hfL h] w fun e w' => e = .returned (.bool true) ∧ Below w.heap.size w w' := by
  go_enter Try.func50, Try.ntmps50
  go_wp2
  go_ret
  exact ⟨rfl, ((Below.refl _ _).alloc (Nat.le_refl _) _).alloc (by simp) _⟩
set_option maxHeartbeats 1000000 in
theorem eq_outH (R : HoL) (p q : Option Addr) (k l : Nat) (w : World) (hn : R.s.length ≤ 2000000) (hp : RowC sbC 2 w p R.s) (hq : RowC sbC 2 w q R.s) :
    Calls Try.prog 31 #[hoV R.h p R.s.length k R.c, hoV R.h q R.s.length l R.c] w fun e w' => e = .returned (.bool true) ∧ Below w.heap.size w w' := by
  have HX := Lib.hid (bx2 w 29 29 (hoC R.h p R.s.length k R.c) (hoC R.h q R.s.length l R.c))
  have HP := Lib.hid hp
  have HQ := Lib.hid hq
  clear hp hq
  go_enter Try.func31, Try.ntmps31
  go_wp2_with (first
    | (go_at_call 50; go_fit (eq_half R.h _); rintro e w1 ⟨rfl, hb⟩; have HX1 := Lib.hid (HX.out.on hb); clear hb; obtain ⟨c0, c1, c2, c3, c4, c5, c6⟩ := ho_cells (b := w.heap.size) (HX1.out.2 0 (show 0 < 2 by decide)); obtain ⟨d0, d1, d2, d3, d4, d5, d6⟩ := ho_cells (b := w.heap.size + 1) (HX1.out.2 1 (show 1 < 2 by decide)))
    | (go_at_call 51; go_fit (eqs_sb R.s p q k l _ hn (HP.out.on HX1.out.1) (HQ.out.on HX1.out.1)); rintro e w2 ⟨rfl, hb⟩; have HX2 := Lib.hid (HX1.out.on hb); clear hb c0 c1 c2 c3 c4 c5 c6 d0 d1 d2 d3 d4 d5 d6; obtain ⟨c0, c1, c2, c3, c4, c5, c6⟩ := ho_cells (b := w.heap.size) (HX2.out.2 0 (show 0 < 2 by decide)); obtain ⟨d0, d1, d2, d3, d4, d5, d6⟩ := ho_cells (b := w.heap.size + 1) (HX2.out.2 1 (show 1 < 2 by decide))))
  go_ret
  exact ⟨rfl, HX2.out.1⟩
set_option maxHeartbeats 400000 in
theorem mark_outH (R : HoL) (p : Option Addr) (k B : Nat) (w : World) (hn : R.s.length ≤ 1000000) (hB : B ≤ w.heap.size) (h : OwnC sbC w B 32 2 (.slice p R.s.length k) R.s) :
    Calls Try.prog 32 #[hoV R.h p R.s.length k R.c, .int .i64 1] w fun e w' => e = .returned (.int .i64 (1 + R.s.length * 2)) ∧ MOwn mk_sb 1 B 32 2 (.slice p R.s.length k) R.s.length w' ∧ MFrame B (.slice p R.s.length k) w w' := by
  have i1 := fun W (hB : B ≤ W.heap.size) h => marks_sb sbC B 1 (.slice p R.s.length k) R.s W (by decide) (by decide) hn hB h
  have HO := Lib.hid h
  clear h
  go_enter Try.func32, Try.ntmps32
  go_wp2_with (go_at_call 52; go_fit (i1 _ (by simp; omega) (HO.out.alloc _)); rintro e w1 ⟨rfl, hM, hF⟩)
  go_ret
  refine ⟨rfl, hM, ((Below.refl B w).alloc hB _).trans hF.1, Nat.le_trans (by simp) hF.2.1, fun x hx hne => ?_⟩
  rw [hF.2.2 x (by simp; omega) hne]
  exact heap_alloc_old w _ hx
set_option maxHeartbeats 400000 in
theorem held_outH (R : HoL) (p : Option Addr) (k B : Nat) (w : World) (hn : R.s.length ≤ 1000000) (h : MOwn mk_sb 1 B 32 2 (.slice p R.s.length k) R.s.length w) :
    Calls Try.prog 33 #[hoV R.h p R.s.length k R.c, .int .i64 1] w fun e w' => e = .returned (.int .i64 (1 + R.s.length * 2)) ∧ Below w.heap.size w w' := by
  have i1 := fun W h => helds_sb B 1 R.s.length (.slice p R.s.length k) W (by decide) (by decide) hn h
  have HO := Lib.hid h
  have hpos : ¬ ((1 : Int) + R.s.length * 2 < 0) := by omega
  clear h
  go_enter Try.func33, Try.ntmps33
  go_wp2_with (go_at_call 53; go_fit (i1 _ (HO.out.on ((Below.refl _ _).alloc (Nat.le_refl _) _))); rintro e w1 ⟨rfl, hb⟩)
  go_ret
  exact ⟨rfl, below_one hb⟩
theorem row_ownH {W : World} {B : Nat} {p : Option Addr} {k n : Nat} {xs : List SbL} (h : OwnC sbC W B 32 2 (.slice p n k) xs) : RowC sbC 2 W p xs := by
  obtain ⟨p', k', e, hR⟩ := h.row sbC_len
  injection e with e1 e2 e3
  rw [e1]
  exact hR
/-- An answer in a box of the law's. -/
def OutH (b B : Nat) (W : World) (R : HoL) (p : Option Addr) (k : Nat) : Prop := Arr W b 29 (hoC R.h p R.s.length k R.c) ∧ OwnC sbC W B 32 2 (.slice p R.s.length k) R.s
theorem arr_belowH {w w1 : World} {b t : Nat} {cs : List Value} (h : Arr w b t cs) (hb : Below w.heap.size w w1) : Arr w1 b t cs := (hb.block b (arr_ltH h)).trans h
theorem OutH.on {b B : Nat} {W W2 : World} {R : HoL} {p : Option Addr} {k : Nat} (h : OutH b B W R p k) (hb : Below W.heap.size W W2) : OutH b B W2 R p k := ⟨arr_belowH h.1 hb, h.2.on hb⟩
theorem OutH.new {B : Nat} {W : World} {R : HoL} {p : Option Addr} {k : Nat} (h : OwnC sbC W B 32 2 (.slice p R.s.length k) R.s) : OutH W.heap.size B (W.alloc (.cells (hoC R.h p R.s.length k R.c).toArray 29)) R p k := ⟨Arr.fresh W _ _, h.alloc _⟩
/-- What lies lower than the marked row stays. -/
theorem OutH.low {b B B2 : Nat} {W W2 : World} {R : HoL} {p : Option Addr} {k : Nat} {v2 : Value} (h : OutH b B W R p k) (hF : MFrame B2 v2 W W2) (hb : b < B2) (hv : ∀ g, (Value.slice p R.s.length k).ownBlock = some g → g < B2) : OutH b B W2 R p k := by
  refine ⟨arr_keep h.1 hF.1 hb, h.2.1, ?_⟩
  rcases h.2.2 with h0 | ⟨g, cap, cur, h1, h2, h3, h4⟩
  · exact .inl h0
  · refine .inr ⟨g, cap, cur, h1, h2, (hF.1.block g (hv g ?_)).trans h3, h4⟩
    rw [h1]
    rfl
theorem HfBox.mark {w W W2 : World} {h : HfL} {B : Nat} {v : Value} (hx : HfBox w W h) (hF : MFrame B v W W2) (hB : w.heap.size < B) : HfBox w W2 h := ⟨arr_keep hx.1 hF.1 hB, hx.2.trans (hF.1.mono (Nat.le_of_lt hB))⟩
theorem own_ltH {w : World} {B e size : Nat} {v : Value} {xs : List SbL} (h : OwnC sbC w B e size v xs) : ∀ g, v.ownBlock = some g → B ≤ g ∧ g < w.heap.size := World.ownsRow.lt h
/-- A row of subs is no box of an answer. -/
theorem own_neH {w : World} {B b : Nat} {v : Value} {xs : List SbL} {cs : List Value} (h : OwnC sbC w B 32 2 v xs) (hA : Arr w b 29 cs) : ∀ g, v.ownBlock = some g → b ≠ g := by
  intro g hg e
  subst e
  rcases h.2 with ⟨h0, _⟩ | ⟨g', cap, cur, h1, h2, h3, h4⟩
  · rw [h0] at hg; cases hg
  · rw [h1] at hg
    injection hg with hg
    have hg : g' = b := hg
    subst hg
    unfold Arr at hA
    rw [h3] at hA
    injection hA with hA
    injection hA with _ hA
    cases hA
end Go.Proofs.Ytgfpcmfcnphalaa
