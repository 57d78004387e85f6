/- The answers of the functions that change a dialback; impl.dialbackOut. -/
import Derived.Test.YtkjkfcljejjpbaaDoorDbBits
import Derived.Test.YtkjkfcljejjpbaaDoorDbIs
import Derived.Laws.Rows
import Derived.Stop.IfaceNil
namespace Go.Proofs.YtkjkfcljejjpbaaDoor
set_option linter.unusedSimpArgs false
set_option linter.unusedVariables false
open Go.RowKit Go.Joins

/-- A dialback, a number and a code. -/
structure DoR where
  d : ByteArray
  n : Int
  ps : List PrL
  i : Int
  c : Int
def errR (c : Int) : DoR := ⟨⟨#[]⟩, 0, [], 0, c⟩
def doV (d : ByteArray) (n : Int) (p : Option Addr) (len cap : Nat) (i c : Int) : Value := .agg #[.string d, .int .i64 n, .slice p len cap, .int .i64 i, .int .i64 c]
/-- The answer R, in memory of the call's own. -/
def DoIs (B : Nat) (R : DoR) (e : Ending) (W : World) : Prop := ∃ p k, e = .returned (doV R.d R.n p R.ps.length k R.i R.c) ∧ OwnC prC W B 43 4 (.slice p R.ps.length k) R.ps
theorem do_err (B : Nat) (c : Int) (W : World) : DoIs B (errR c) (.returned (doV ⟨#[]⟩ 0 none 0 0 0 c)) W := ⟨none, 0, rfl, ownC_nil _ _ _ _ _⟩
theorem arr_five {w : World} {g t : Nat} {a b c d e : Value} (h : Arr w g t [a, b, c, d, e]) : (w.cell? ⟨g, 0, none⟩ = some a ∧ w.cell? ⟨g, 1, none⟩ = some b ∧ w.cell? ⟨g, 2, none⟩ = some c ∧ w.cell? ⟨g, 3, none⟩ = some d ∧ w.cell? ⟨g, 4, none⟩ = some e) ∧
    w.frozen? ⟨g, 0, none⟩ = false ∧ w.frozen? ⟨g, 1, none⟩ = false ∧ w.frozen? ⟨g, 2, none⟩ = false ∧ w.frozen? ⟨g, 3, none⟩ = false ∧ w.frozen? ⟨g, 4, none⟩ = false :=
  ⟨⟨h.cell 0, h.cell 1, h.cell 2, h.cell 3, h.cell 4⟩, h.free 0, h.free 1, h.free 2, h.free 3, h.free 4⟩
def put5 (w : World) (g : Nat) (a b c d e : Value) : World := ((((w.setCell ⟨g, 0, none⟩ a).setCell ⟨g, 1, none⟩ b).setCell ⟨g, 2, none⟩ c).setCell ⟨g, 3, none⟩ d).setCell ⟨g, 4, none⟩ e
theorem arr_put5 {w : World} {g t : Nat} {x0 x1 x2 x3 x4 : Value} (h : Arr w g t [x0, x1, x2, x3, x4]) (a b c d e : Value) : Arr (put5 w g a b c d e) g t [a, b, c, d, e] :=
  ((((h.put 0 a).put 1 b).put 2 c).put 3 d).put 4 e
theorem below_put5 {B g : Nat} {w w1 : World} (h : Below B w w1) (hg : B ≤ g) (a b c d e : Value) : Below B w (put5 w1 g a b c d e) :=
  ((below_three h hg a b c).setCell (p := ⟨g, 3, none⟩) hg d).setCell (p := ⟨g, 4, none⟩) hg e
set_option maxRecDepth 100000 in
set_option maxHeartbeats 400000 in
theorem impl_out_ok (d : ByteArray) (n : Int) (p : Option Addr) (len cap : Nat) (w : World) :
    Calls Tryd.prog 23 #[dbV d n p len cap, .nilIface] w fun e w' => e = .returned (doV d n p len cap 0 0) ∧ Below w.heap.size w w' := by
  unfold dbV
  go_enter Tryd.func23, Tryd.ntmps23
  go_wp2
  have hA := Arr.fresh (w.alloc (.cells #[.string d, .int .i64 n, .slice p len cap] 25)) 29 [.string d, .int .i64 n, .slice p len cap, .int .i64 0, .int .i64 0]
  rw [World.size_alloc] at hA
  exact bodyPost_ret (v := doV d n p len cap 0 0) (results_cell_row (P := Tryd.prog) Tryd.results23 _ _ (w.heap.size + 1) 29 _ (0, 0) _ rfl hA Tryd.underlying29 rfl (by kernel_rfl)) rfl ⟨rfl, ((Below.refl _ _).alloc (Nat.le_refl _) _).alloc (by simp) _⟩
set_option maxRecDepth 100000 in
set_option maxHeartbeats 400000 in
theorem impl_out_1 (a0 a1 a2 a3 : Addr) (w : World) (hE : ErrsAt w a0 a1 a2 a3) :
    Calls Tryd.prog 23 #[dbV ⟨#[]⟩ 0 none 0 0, .iface 102 (.pointer (some a0))] w fun e w' => e = .returned (doV ⟨#[]⟩ 0 none 0 0 0 1) ∧ Below w.heap.size w w' := by
  have HB0 : Hid (Below w.heap.size w ((w.alloc (.cells #[.string ⟨#[]⟩, .int .i64 0, .slice none 0 0] 25)).alloc (.cells #[.string ⟨#[]⟩, .int .i64 0, .slice none 0 0, .int .i64 0, .int .i64 0] 29))) := Lib.hid (((Below.refl _ _).alloc (Nat.le_refl _) _).alloc (by simp) _)
  have HE := Lib.hid (hE.below HB0.out)
  obtain ⟨⟨h0, h1, h2, h3⟩, ⟨⟨c0, t0, b0⟩, ⟨c1, t1, b1⟩, ⟨c2, t2, b2⟩, ⟨c3, t3, b3⟩⟩, hne⟩ := hE
  have i1 := fun W (hb : Below w.heap.size w W) => is_other a0 a1 _ _ _ _ W hne.1.1 (heap_on hb b0) (heap_on hb b1)
  have i2 := fun W (hb : Below w.heap.size w W) => is_other a0 a2 _ _ _ _ W hne.1.2.1 (heap_on hb b0) (heap_on hb b2)
  have i3 := fun W (hb : Below w.heap.size w W) => is_other a0 a3 _ _ _ _ W hne.1.2.2 (heap_on hb b0) (heap_on hb b3)
  clear h0 h1 h2 h3 b0 b1 b2 b3 hne
  obtain ⟨⟨h0, h1, h2, h3⟩, _⟩ := HE.out
  unfold dbV
  go_enter Tryd.func23, Tryd.ntmps23
  go_wp2_with (first | (go_at_call 40; go_fit (i1 _ HB0.out); rintro e w' ⟨rfl, rfl⟩) | (go_at_call 40; go_fit (i2 _ HB0.out); rintro e w' ⟨rfl, rfl⟩) | (go_at_call 40; go_fit (i3 _ HB0.out); rintro e w' ⟨rfl, rfl⟩))
  have hA := Arr.fresh (w.alloc (.cells #[.string ⟨#[]⟩, .int .i64 0, .slice none 0 0] 25)) 29 [.string ⟨#[]⟩, .int .i64 0, .slice none 0 0, .int .i64 0, .int .i64 1]
  rw [World.size_alloc] at hA
  exact bodyPost_ret (v := doV ⟨#[]⟩ 0 none 0 0 0 1) (results_cell_row (P := Tryd.prog) Tryd.results23 _ _ (w.heap.size + 1) 29 _ (0, 0) _ rfl hA Tryd.underlying29 rfl (by kernel_rfl)) rfl ⟨rfl, ((Below.refl _ _).alloc (Nat.le_refl _) _).alloc (by simp) _⟩
set_option maxRecDepth 100000 in
set_option maxHeartbeats 400000 in
theorem impl_out_6 (a0 a1 a2 a3 : Addr) (w : World) (hE : ErrsAt w a0 a1 a2 a3) :
    Calls Tryd.prog 23 #[dbV ⟨#[]⟩ 0 none 0 0, .iface 102 (.pointer (some a1))] w fun e w' => e = .returned (doV ⟨#[]⟩ 0 none 0 0 0 6) ∧ Below w.heap.size w w' := by
  have HB0 : Hid (Below w.heap.size w ((w.alloc (.cells #[.string ⟨#[]⟩, .int .i64 0, .slice none 0 0] 25)).alloc (.cells #[.string ⟨#[]⟩, .int .i64 0, .slice none 0 0, .int .i64 0, .int .i64 0] 29))) := Lib.hid (((Below.refl _ _).alloc (Nat.le_refl _) _).alloc (by simp) _)
  have HE := Lib.hid (hE.below HB0.out)
  obtain ⟨⟨h0, h1, h2, h3⟩, ⟨⟨c0, t0, b0⟩, ⟨c1, t1, b1⟩, ⟨c2, t2, b2⟩, ⟨c3, t3, b3⟩⟩, hne⟩ := hE
  have i1 := fun W (hb : Below w.heap.size w W) => is_same a1 W
  clear h0 h1 h2 h3 b0 b1 b2 b3 hne
  obtain ⟨⟨h0, h1, h2, h3⟩, _⟩ := HE.out
  unfold dbV
  go_enter Tryd.func23, Tryd.ntmps23
  go_wp2_with (first | (go_at_call 40; go_fit (i1 _ HB0.out); rintro e w' ⟨rfl, rfl⟩))
  have hA := Arr.fresh (w.alloc (.cells #[.string ⟨#[]⟩, .int .i64 0, .slice none 0 0] 25)) 29 [.string ⟨#[]⟩, .int .i64 0, .slice none 0 0, .int .i64 0, .int .i64 6]
  rw [World.size_alloc] at hA
  exact bodyPost_ret (v := doV ⟨#[]⟩ 0 none 0 0 0 6) (results_cell_row (P := Tryd.prog) Tryd.results23 _ _ (w.heap.size + 1) 29 _ (0, 0) _ rfl hA Tryd.underlying29 rfl (by kernel_rfl)) rfl ⟨rfl, ((Below.refl _ _).alloc (Nat.le_refl _) _).alloc (by simp) _⟩
set_option maxRecDepth 100000 in
set_option maxHeartbeats 400000 in
theorem impl_out_9 (a0 a1 a2 a3 : Addr) (w : World) (hE : ErrsAt w a0 a1 a2 a3) :
    Calls Tryd.prog 23 #[dbV ⟨#[]⟩ 0 none 0 0, .iface 102 (.pointer (some a2))] w fun e w' => e = .returned (doV ⟨#[]⟩ 0 none 0 0 0 9) ∧ Below w.heap.size w w' := by
  have HB0 : Hid (Below w.heap.size w ((w.alloc (.cells #[.string ⟨#[]⟩, .int .i64 0, .slice none 0 0] 25)).alloc (.cells #[.string ⟨#[]⟩, .int .i64 0, .slice none 0 0, .int .i64 0, .int .i64 0] 29))) := Lib.hid (((Below.refl _ _).alloc (Nat.le_refl _) _).alloc (by simp) _)
  have HE := Lib.hid (hE.below HB0.out)
  obtain ⟨⟨h0, h1, h2, h3⟩, ⟨⟨c0, t0, b0⟩, ⟨c1, t1, b1⟩, ⟨c2, t2, b2⟩, ⟨c3, t3, b3⟩⟩, hne⟩ := hE
  have i1 := fun W (hb : Below w.heap.size w W) => is_other a2 a1 _ _ _ _ W (Ne.symm hne.2.1.1) (heap_on hb b2) (heap_on hb b1)
  have i2 := fun W (hb : Below w.heap.size w W) => is_same a2 W
  clear h0 h1 h2 h3 b0 b1 b2 b3 hne
  obtain ⟨⟨h0, h1, h2, h3⟩, _⟩ := HE.out
  unfold dbV
  go_enter Tryd.func23, Tryd.ntmps23
  go_wp2_with (first | (go_at_call 40; go_fit (i1 _ HB0.out); rintro e w' ⟨rfl, rfl⟩) | (go_at_call 40; go_fit (i2 _ HB0.out); rintro e w' ⟨rfl, rfl⟩))
  have hA := Arr.fresh (w.alloc (.cells #[.string ⟨#[]⟩, .int .i64 0, .slice none 0 0] 25)) 29 [.string ⟨#[]⟩, .int .i64 0, .slice none 0 0, .int .i64 0, .int .i64 9]
  rw [World.size_alloc] at hA
  exact bodyPost_ret (v := doV ⟨#[]⟩ 0 none 0 0 0 9) (results_cell_row (P := Tryd.prog) Tryd.results23 _ _ (w.heap.size + 1) 29 _ (0, 0) _ rfl hA Tryd.underlying29 rfl (by kernel_rfl)) rfl ⟨rfl, ((Below.refl _ _).alloc (Nat.le_refl _) _).alloc (by simp) _⟩
set_option maxRecDepth 100000 in
set_option maxHeartbeats 400000 in
theorem impl_out_10 (a0 a1 a2 a3 : Addr) (w : World) (hE : ErrsAt w a0 a1 a2 a3) :
    Calls Tryd.prog 23 #[dbV ⟨#[]⟩ 0 none 0 0, .iface 102 (.pointer (some a3))] w fun e w' => e = .returned (doV ⟨#[]⟩ 0 none 0 0 0 10) ∧ Below w.heap.size w w' := by
  have HB0 : Hid (Below w.heap.size w ((w.alloc (.cells #[.string ⟨#[]⟩, .int .i64 0, .slice none 0 0] 25)).alloc (.cells #[.string ⟨#[]⟩, .int .i64 0, .slice none 0 0, .int .i64 0, .int .i64 0] 29))) := Lib.hid (((Below.refl _ _).alloc (Nat.le_refl _) _).alloc (by simp) _)
  have HE := Lib.hid (hE.below HB0.out)
  obtain ⟨⟨h0, h1, h2, h3⟩, ⟨⟨c0, t0, b0⟩, ⟨c1, t1, b1⟩, ⟨c2, t2, b2⟩, ⟨c3, t3, b3⟩⟩, hne⟩ := hE
  have i1 := fun W (hb : Below w.heap.size w W) => is_other a3 a1 _ _ _ _ W (Ne.symm hne.2.1.2) (heap_on hb b3) (heap_on hb b1)
  have i2 := fun W (hb : Below w.heap.size w W) => is_other a3 a2 _ _ _ _ W (Ne.symm hne.2.2) (heap_on hb b3) (heap_on hb b2)
  have i3 := fun W (hb : Below w.heap.size w W) => is_same a3 W
  clear h0 h1 h2 h3 b0 b1 b2 b3 hne
  obtain ⟨⟨h0, h1, h2, h3⟩, _⟩ := HE.out
  unfold dbV
  go_enter Tryd.func23, Tryd.ntmps23
  go_wp2_with (first | (go_at_call 40; go_fit (i1 _ HB0.out); rintro e w' ⟨rfl, rfl⟩) | (go_at_call 40; go_fit (i2 _ HB0.out); rintro e w' ⟨rfl, rfl⟩) | (go_at_call 40; go_fit (i3 _ HB0.out); rintro e w' ⟨rfl, rfl⟩))
  have hA := Arr.fresh (w.alloc (.cells #[.string ⟨#[]⟩, .int .i64 0, .slice none 0 0] 25)) 29 [.string ⟨#[]⟩, .int .i64 0, .slice none 0 0, .int .i64 0, .int .i64 10]
  rw [World.size_alloc] at hA
  exact bodyPost_ret (v := doV ⟨#[]⟩ 0 none 0 0 0 10) (results_cell_row (P := Tryd.prog) Tryd.results23 _ _ (w.heap.size + 1) 29 _ (0, 0) _ rfl hA Tryd.underlying29 rfl (by kernel_rfl)) rfl ⟨rfl, ((Below.refl _ _).alloc (Nat.le_refl _) _).alloc (by simp) _⟩
end Go.Proofs.YtkjkfcljejjpbaaDoor
