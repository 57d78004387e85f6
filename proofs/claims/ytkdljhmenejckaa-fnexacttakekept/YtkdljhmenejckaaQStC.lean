/- Several parts in one text: StReplyI, StReplyS, StFault, StDraws. -/
import Derived.Test.YtkdljhmenejckaaQBase
import Derived.Test.YtkdljhmenejckaaQStA
import Derived.Test.YtkdljhmenejckaaQStB
namespace Go.Proofs.Ytkdljhmenejckaa
set_option linter.unusedSimpArgs false
set_option linter.unusedVariables false
open Go.RowKit

/-- A slice of one string. -/
def OneStr (W : World) (v : Value) (s : ByteArray) : Prop := ∃ g, v = .slice (some ⟨g, 0, none⟩) 1 1 ∧ W.cell? ⟨g, 0, none⟩ = some (.string s)
theorem OneStr.on {W W' : World} {v : Value} {s : ByteArray} (h : OneStr W v s) (hb : Below W.heap.size W W') : OneStr W' v s := by
  obtain ⟨g, rfl, hc⟩ := h
  exact ⟨g, rfl, (hb.cell (p := ⟨g, 0, none⟩) (lt_of_cellJ hc)).trans hc⟩
theorem oneStr_new (W : World) (s : ByteArray) (t : Nat) : OneStr (W.alloc (.cells #[.string s] t)) (.slice (some ⟨W.heap.size, 0, none⟩) 1 1) s := ⟨_, rfl, one_at W s t⟩
theorem OneStr.joined {W : World} {v : Value} {s : ByteArray} (h : OneStr W v s) (hs : s.size ≤ 2000000) : Calls Try.prog 61 #[v] W fun e w' => e = .returned (.string s) ∧ Below W.heap.size W w' := by
  obtain ⟨g, rfl, hc⟩ := h
  exact joined_at g s W hs hc
/-- A new stanza, empty. -/
def ResAt (B : Nat) (W : World) (v : Value) : Prop := ∃ g, v = .pointer (some ⟨g, 0, none⟩) ∧ B ≤ g ∧ Arr W g 63 [.string ⟨#[]⟩, .string ⟨#[]⟩, .string ⟨#[]⟩, .string ⟨#[]⟩, .int .i64 0, .string ⟨#[]⟩]
theorem ResAt.on {B : Nat} {W W' : World} {v : Value} (h : ResAt B W v) (hb : Below W.heap.size W W') : ResAt B W' v := by
  obtain ⟨g, rfl, hB, hA⟩ := h
  exact ⟨g, rfl, hB, arr_below hA hb⟩
theorem resAt_new (B : Nat) (W : World) (h : B ≤ W.heap.size) : ResAt B (W.alloc (.cells #[.string ⟨#[]⟩, .string ⟨#[]⟩, .string ⟨#[]⟩, .string ⟨#[]⟩, .int .i64 0, .string ⟨#[]⟩] 63)) (.pointer (some ⟨W.heap.size, 0, none⟩)) := ⟨_, rfl, h, Arr.fresh W _ _⟩
theorem arr_six0 {w : World} {g t : Nat} {a b c d e f : Value} (h : Arr w g t [a, b, c, d, e, f]) : (w.cell? ⟨g, 0, none⟩ = some a ∧ w.cell? ⟨g, 1, none⟩ = some b ∧ w.cell? ⟨g, 2, none⟩ = some c ∧ w.cell? ⟨g, 3, none⟩ = some d ∧ w.cell? ⟨g, 4, none⟩ = some e ∧ w.cell? ⟨g, 5, none⟩ = some f) ∧
    w.frozen? ⟨g, 0, none⟩ = false ∧ w.frozen? ⟨g, 1, none⟩ = false ∧ w.frozen? ⟨g, 2, none⟩ = false ∧ w.frozen? ⟨g, 3, none⟩ = false ∧ w.frozen? ⟨g, 4, none⟩ = false ∧ w.frozen? ⟨g, 5, none⟩ = false :=
  ⟨⟨h.cell 0, h.cell 1, h.cell 2, h.cell 3, h.cell 4, h.cell 5⟩, h.free 0, h.free 1, h.free 2, h.free 3, h.free 4, h.free 5⟩
def put6 (w : World) (g : Nat) (a b c d e f : Value) : World := (((((w.setCell ⟨g, 0, none⟩ a).setCell ⟨g, 1, none⟩ b).setCell ⟨g, 2, none⟩ c).setCell ⟨g, 3, none⟩ d).setCell ⟨g, 4, none⟩ e).setCell ⟨g, 5, none⟩ f
theorem arr_put6 {w : World} {g t : Nat} {x0 x1 x2 x3 x4 x5 : Value} (h : Arr w g t [x0, x1, x2, x3, x4, x5]) (a b c d e f : Value) : Arr (put6 w g a b c d e f) g t [a, b, c, d, e, f] :=
  (((((h.put 0 a).put 1 b).put 2 c).put 3 d).put 4 e).put 5 f
theorem arr_far6 {w : World} {g g' t : Nat} {cs : List Value} (h : Arr w g t cs) (hne : g ≠ g') (a b c d e f : Value) : Arr (put6 w g' a b c d e f) g t cs := by
  have s : ∀ (w : World) (i : Nat) (u : Value), Arr w g t cs → Arr (w.setCell ⟨g', i, none⟩ u) g t cs := fun w i u h => by
    unfold Arr at h ⊢
    rw [← h]
    exact Below.heap_setCell w ⟨g', i, none⟩ u g (by simpa using hne)
  exact s _ _ _ (s _ _ _ (s _ _ _ (s _ _ _ (s _ _ _ (s _ _ _ h)))))
theorem below_put6 {B g : Nat} {w w1 : World} (h : Below B w w1) (hg : B ≤ g) (a b c d e f : Value) : Below B w (put6 w1 g a b c d e f) :=
  (((((h.setCell (p := ⟨g, 0, none⟩) hg a).setCell (p := ⟨g, 1, none⟩) hg b).setCell (p := ⟨g, 2, none⟩) hg c).setCell (p := ⟨g, 3, none⟩) hg d).setCell (p := ⟨g, 4, none⟩) hg e).setCell (p := ⟨g, 5, none⟩) hg f
/-- What stands all along: the box of the argument, the box of the answer. -/
def RepS (w : World) (k t f o : ByteArray) (n : Int) (b : ByteArray) (W : World) : Prop :=
  (W.cell? ⟨w.heap.size, 0, none⟩ = some (.string k) ∧ W.cell? ⟨w.heap.size, 1, none⟩ = some (.string t) ∧ W.cell? ⟨w.heap.size, 2, none⟩ = some (.string f) ∧ W.cell? ⟨w.heap.size, 3, none⟩ = some (.string o) ∧ W.cell? ⟨w.heap.size, 4, none⟩ = some (.int .i64 n) ∧ W.cell? ⟨w.heap.size, 5, none⟩ = some (.string b)) ∧ (Below w.heap.size w W ∧ Arr W w.heap.size 63 [.string k, .string t, .string f, .string o, .int .i64 n, .string b] ∧ Arr W (w.heap.size + 1) 63 [.string ⟨#[]⟩, .string ⟨#[]⟩, .string ⟨#[]⟩, .string ⟨#[]⟩, .int .i64 0, .string ⟨#[]⟩] ∧ w.heap.size + 2 ≤ W.heap.size)
theorem repS {w : World} {k t f o : ByteArray} {n : Int} {b : ByteArray} {W : World} (hb : Below w.heap.size w W) (h1 : Arr W w.heap.size 63 [.string k, .string t, .string f, .string o, .int .i64 n, .string b]) (h2 : Arr W (w.heap.size + 1) 63 [.string ⟨#[]⟩, .string ⟨#[]⟩, .string ⟨#[]⟩, .string ⟨#[]⟩, .int .i64 0, .string ⟨#[]⟩]) (h3 : w.heap.size + 2 ≤ W.heap.size) : RepS w k t f o n b W :=
  ⟨(arr_six0 h1).1, hb, h1, h2, h3⟩
theorem repS_on {w : World} {k t f o : ByteArray} {n : Int} {b : ByteArray} {W W' : World} (h : RepS w k t f o n b W) (hb : Below W.heap.size W W') : RepS w k t f o n b W' :=
  repS (h.2.1.trans (hb.mono h.2.1.size)) (arr_below h.2.2.1 hb) (arr_below h.2.2.2.1 hb) (Nat.le_trans h.2.2.2.2 hb.size)
theorem repS_put {w : World} {k t f o : ByteArray} {n : Int} {b : ByteArray} {W : World} (h : RepS w k t f o n b W) {g : Nat} (hg : w.heap.size + 2 ≤ g) (x0 x1 x2 x3 x4 x5 : Value) : RepS w k t f o n b (put6 W g x0 x1 x2 x3 x4 x5) :=
  repS (below_put6 h.2.1 (by omega) _ _ _ _ _ _) (arr_far6 h.2.2.1 (by omega) _ _ _ _ _ _) (arr_far6 h.2.2.2.1 (by omega) _ _ _ _ _ _) (Nat.le_trans h.2.2.2.2 (below_put6 (Below.refl _ W) (Nat.zero_le g) x0 x1 x2 x3 x4 x5).size)
/-- What each operation of the answer's making has left. -/
structure RepA (w : World) (k kd o f : ByteArray) (n : Int) (bd : ByteArray) (b1 c1 b2 c2 b3 c3 b4 c4 b5 c5 bu al : Bool) (v10 v11 v13 v14 v17 v18 v21 v22 v26 v27 v28 v7 : Value) (W : World) : Prop where
  p1 : b1 = true → OneStr W v10 k
  q1 : c1 = true → v11 = .string k
  p2 : b2 = true → OneStr W v13 kd
  q2 : c2 = true → v14 = .string kd
  p3 : b3 = true → OneStr W v17 o
  q3 : c3 = true → v18 = .string o
  p4 : b4 = true → OneStr W v21 f
  q4 : c4 = true → v22 = .string f
  p5 : b5 = true → OneStr W v26 bd
  q5 : c5 = true → v27 = .string bd
  pu : bu = true → v28 = .agg #[.string k, .string kd, .string o, .string f, .int .i64 n, .string bd]
  pa : al = true → ResAt (w.heap.size + 2) W v7
theorem RepA.on {w : World} {k kd o f : ByteArray} {n : Int} {bd : ByteArray} {b1 c1 b2 c2 b3 c3 b4 c4 b5 c5 bu al : Bool} {v10 v11 v13 v14 v17 v18 v21 v22 v26 v27 v28 v7 : Value} {W W' : World} (h : RepA w k kd o f n bd b1 c1 b2 c2 b3 c3 b4 c4 b5 c5 bu al v10 v11 v13 v14 v17 v18 v21 v22 v26 v27 v28 v7 W) (hb : Below W.heap.size W W') : RepA w k kd o f n bd b1 c1 b2 c2 b3 c3 b4 c4 b5 c5 bu al v10 v11 v13 v14 v17 v18 v21 v22 v26 v27 v28 v7 W' :=
  { h with
    p1 := fun e => (h.p1 e).on hb
    p2 := fun e => (h.p2 e).on hb
    p3 := fun e => (h.p3 e).on hb
    p4 := fun e => (h.p4 e).on hb
    p5 := fun e => (h.p5 e).on hb
    pa := fun e => (h.pa e).on hb }
/-- The invariant of the region that makes the answer. -/
def RepInv (w : World) (k t f o : ByteArray) (n : Int) (b kd bd : ByteArray) (listed : Array Bool) (a : Act) (W : World) : Prop :=
  ∃ (b1 c1 b2 c2 b3 c3 b4 c4 b5 c5 bu al st : Bool) (v10 v11 v13 v14 v17 v18 v21 v22 v26 v27 v28 v7 : Value), listed = #[true, true, b1, c1, true, b2, c2, true, true, b3, c3, true, true, b4, c4, true, true, true, b5, c5, bu, al, st] ∧
    a = { tmps := #[.agg #[.string k, .string t, .string f, .string o, .int .i64 n, .string b], .string kd, .string bd, .pointer (some ⟨w.heap.size, 0, none⟩), undef, undef, .pointer (some ⟨w.heap.size + 1, 0, none⟩), v7, .pointer (some ⟨w.heap.size, 0, none⟩), .string k, v10, v11, .string kd, v13, v14, .pointer (some ⟨w.heap.size, 3, none⟩), .string o, v17, v18, .pointer (some ⟨w.heap.size, 2, none⟩), .string f, v21, v22, .pointer (some ⟨w.heap.size, 4, none⟩), .int .i64 n, .string bd, v26, v27, v28, undef, undef, undef, undef, undef, undef, undef, undef, undef, undef], defers := [] } ∧ RepS w k t f o n b W ∧ (st = false → RepA w k kd o f n bd b1 c1 b2 c2 b3 c3 b4 c4 b5 c5 bu al v10 v11 v13 v14 v17 v18 v21 v22 v26 v27 v28 v7 W) ∧
    (st = true → b1 = true ∧ c1 = true ∧ b2 = true ∧ c2 = true ∧ b3 = true ∧ c3 = true ∧ b4 = true ∧ c4 = true ∧ b5 = true ∧ c5 = true ∧ bu = true ∧ al = true) ∧ (st = true → ∃ g, v7 = .pointer (some ⟨g, 0, none⟩) ∧ w.heap.size + 2 ≤ g ∧ Arr W g 63 [.string k, .string kd, .string o, .string f, .int .i64 n, .string bd])

noncomputable def repV (k t f o : ByteArray) (n : Int) (b kd bd : ByteArray) : Value :=
  if (stB k t f o n b && stB k kd o f n bd) = true then stV k kd o f n bd else stV ⟨#[]⟩ ⟨#[]⟩ ⟨#[]⟩ ⟨#[]⟩ 0 ⟨#[]⟩
end Go.Proofs.Ytkdljhmenejckaa

namespace Go.Proofs.Ytkdljhmenejckaa
set_option linter.unusedSimpArgs false
set_option linter.unusedVariables false
open Go.RowKit

theorem st_le {k t f o : ByteArray} {n : Int} {b : ByteArray} (h : stB k t f o n b = true) : t.size ≤ 20 ∧ b.size ≤ 400 := by
  unfold stB at h
  simp only [Bool.and_eq_true, Bool.or_eq_true, decide_eq_true_iff] at h
  obtain ⟨⟨⟨⟨⟨_, ht⟩, _⟩, _⟩, _⟩, _, hb⟩ := h
  refine ⟨?_, hb⟩
  rcases ht with ht | ht
  · omega
  · unfold nameB at ht
    simp at ht
    exact ht.2.1
/-- The two boxes that a function on a stanza lays: its argument's, its answer's. -/
theorem two_boxes {w w1 : World} {k t f o : ByteArray} {n : Int} {b : ByteArray} (h : Below ((w.alloc (.cells #[.string k, .string t, .string f, .string o, .int .i64 n, .string b] 63)).alloc (.cells #[.string ⟨#[]⟩, .string ⟨#[]⟩, .string ⟨#[]⟩, .string ⟨#[]⟩, .int .i64 0, .string ⟨#[]⟩] 63)).heap.size ((w.alloc (.cells #[.string k, .string t, .string f, .string o, .int .i64 n, .string b] 63)).alloc (.cells #[.string ⟨#[]⟩, .string ⟨#[]⟩, .string ⟨#[]⟩, .string ⟨#[]⟩, .int .i64 0, .string ⟨#[]⟩] 63)) w1) : RepS w k t f o n b w1 := by
  have h0 : RepS w k t f o n b ((w.alloc (.cells #[.string k, .string t, .string f, .string o, .int .i64 n, .string b] 63)).alloc (.cells #[.string ⟨#[]⟩, .string ⟨#[]⟩, .string ⟨#[]⟩, .string ⟨#[]⟩, .int .i64 0, .string ⟨#[]⟩] 63)) :=
    repS (((Below.refl w.heap.size w).alloc (Nat.le_refl _) _).alloc (by simp) _) (arr_alloc (Arr.fresh w _ _) _) (by have := Arr.fresh (w.alloc (.cells #[.string k, .string t, .string f, .string o, .int .i64 n, .string b] 63)) 63 [.string ⟨#[]⟩, .string ⟨#[]⟩, .string ⟨#[]⟩, .string ⟨#[]⟩, .int .i64 0, .string ⟨#[]⟩]; rw [World.size_alloc] at this; exact this) (by simp)
  exact repS_on h0 h
theorem third_box {w w1 : World} {o1 o2 : Obj} {cs : List Value} {t : Nat} (h : Below (((w.alloc o1).alloc o2).alloc (.cells cs.toArray t)).heap.size (((w.alloc o1).alloc o2).alloc (.cells cs.toArray t)) w1) : Arr w1 (w.heap.size + 2) t cs := by
  have := arr_below (Arr.fresh ((w.alloc o1).alloc o2) t cs) h
  rw [World.size_alloc, World.size_alloc] at this
  exact this
/-- What l04Reply answers. -/
noncomputable def l4V (k f o : ByteArray) (n : Int) (kd bd : ByteArray) : Value := if stB k kd o f n bd = true then stV k kd o f n bd else stV ⟨#[]⟩ ⟨#[]⟩ ⟨#[]⟩ ⟨#[]⟩ 0 ⟨#[]⟩
theorem cells_of_s {w : World} {k t f o : ByteArray} {n : Int} {b : ByteArray} {W : World} (h : RepS w k t f o n b W) :
    ((W.cell? ⟨w.heap.size, 0, none⟩ = some (.string k) ∧ W.cell? ⟨w.heap.size, 1, none⟩ = some (.string t) ∧ W.cell? ⟨w.heap.size, 2, none⟩ = some (.string f) ∧ W.cell? ⟨w.heap.size, 3, none⟩ = some (.string o) ∧ W.cell? ⟨w.heap.size, 4, none⟩ = some (.int .i64 n) ∧ W.cell? ⟨w.heap.size, 5, none⟩ = some (.string b)) ∧
     (W.cell? ⟨w.heap.size + 1, 0, none⟩ = some (.string ⟨#[]⟩) ∧ W.cell? ⟨w.heap.size + 1, 1, none⟩ = some (.string ⟨#[]⟩) ∧ W.cell? ⟨w.heap.size + 1, 2, none⟩ = some (.string ⟨#[]⟩) ∧ W.cell? ⟨w.heap.size + 1, 3, none⟩ = some (.string ⟨#[]⟩) ∧ W.cell? ⟨w.heap.size + 1, 4, none⟩ = some (.int .i64 0) ∧ W.cell? ⟨w.heap.size + 1, 5, none⟩ = some (.string ⟨#[]⟩))) ∧
    (W.frozen? ⟨w.heap.size + 1, 0, none⟩ = false ∧ W.frozen? ⟨w.heap.size + 1, 1, none⟩ = false ∧ W.frozen? ⟨w.heap.size + 1, 2, none⟩ = false ∧ W.frozen? ⟨w.heap.size + 1, 3, none⟩ = false ∧ W.frozen? ⟨w.heap.size + 1, 4, none⟩ = false ∧ W.frozen? ⟨w.heap.size + 1, 5, none⟩ = false) ∧ w.heap.size + 1 < W.heap.size :=
  ⟨⟨h.1, (arr_six0 h.2.2.2.1).1⟩, (arr_six0 h.2.2.2.1).2, by have := h.2.2.2.2; omega⟩
theorem repS_ans {w : World} {k t f o : ByteArray} {n : Int} {b : ByteArray} {W : World} (h : RepS w k t f o n b W) (x0 x1 x2 x3 x4 x5 : Value) : Below w.heap.size w (put6 W (w.heap.size + 1) x0 x1 x2 x3 x4 x5) :=
  below_put6 h.2.1 (by omega) _ _ _ _ _ _

theorem repV_no {k t f o : ByteArray} {n : Int} {b kd bd : ByteArray} (h : stB k t f o n b = false) : repV k t f o n b kd bd = stV ⟨#[]⟩ ⟨#[]⟩ ⟨#[]⟩ ⟨#[]⟩ 0 ⟨#[]⟩ := by unfold repV; rw [h]; rfl
theorem repV_big {k t f o : ByteArray} {n : Int} {b kd bd : ByteArray} (h : 20 < kd.size ∨ 400 < bd.size) : repV k t f o n b kd bd = stV ⟨#[]⟩ ⟨#[]⟩ ⟨#[]⟩ ⟨#[]⟩ 0 ⟨#[]⟩ := by
  unfold repV
  cases h2 : stB k kd o f n bd
  · rw [Bool.and_false]; rfl
  · have := st_le h2
    omega
theorem repV_l4 {k t f o : ByteArray} {n : Int} {b kd bd : ByteArray} (h : stB k t f o n b = true) : repV k t f o n b kd bd = l4V k f o n kd bd := by unfold repV l4V; rw [h, Bool.true_and]
theorem l4_form (k f o : ByteArray) (n : Int) (kd bd : ByteArray) : ∃ a b c d m e, l4V k f o n kd bd = stV a b c d m e := by
  unfold l4V
  split
  · exact ⟨_, _, _, _, _, _, rfl⟩
  · exact ⟨_, _, _, _, _, _, rfl⟩
end Go.Proofs.Ytkdljhmenejckaa

namespace Go.Proofs.Ytkdljhmenejckaa
set_option linter.unusedSimpArgs false
set_option linter.unusedVariables false
open Go.RowKit

def errS : ByteArray := ⟨#[101, 114, 114, 111, 114]⟩
theorem err_list : errS.toList = [101, 114, 114, 111, 114] := by rw [ByteArray.toList_eq]; rfl
/-- What Fault answers. -/
noncomputable def fltV (k t f o : ByteArray) (n : Int) (b nm : ByteArray) : Value :=
  if ((t.toList == errS.toList) || !nameB nm) = true then stV ⟨#[]⟩ ⟨#[]⟩ ⟨#[]⟩ ⟨#[]⟩ 0 ⟨#[]⟩ else repV k t f o n b errS nm
theorem fltV_yes {k t f o : ByteArray} {n : Int} {b nm : ByteArray} (h : (t.toList == errS.toList) = true) : fltV k t f o n b nm = stV ⟨#[]⟩ ⟨#[]⟩ ⟨#[]⟩ ⟨#[]⟩ 0 ⟨#[]⟩ := by unfold fltV; rw [h]; rfl
theorem fltV_bad {k t f o : ByteArray} {n : Int} {b nm : ByteArray} (h : nameB nm = false) : fltV k t f o n b nm = stV ⟨#[]⟩ ⟨#[]⟩ ⟨#[]⟩ ⟨#[]⟩ 0 ⟨#[]⟩ := by unfold fltV; rw [h, Bool.not_false, Bool.or_true]; rfl
theorem fltV_rep {k t f o : ByteArray} {n : Int} {b nm : ByteArray} (h1 : (t.toList == errS.toList) = false) (h2 : nameB nm = true) : fltV k t f o n b nm = repV k t f o n b errS nm := by unfold fltV; rw [h1, h2]; rfl
theorem rep_form (k t f o : ByteArray) (n : Int) (b kd bd : ByteArray) : ∃ x y z u m v, repV k t f o n b kd bd = stV x y z u m v := by
  unfold repV
  split
  · exact ⟨_, _, _, _, _, _, rfl⟩
  · exact ⟨_, _, _, _, _, _, rfl⟩
theorem name_le {s : ByteArray} (h : nameB s = true) : s.size ≤ 20 := by
  unfold nameB at h
  simp at h
  exact h.2.1

end Go.Proofs.Ytkdljhmenejckaa

namespace Go.Proofs.Ytkdljhmenejckaa
set_option linter.unusedSimpArgs false
set_option linter.unusedVariables false
open Go.RowKit

/-- A stanza whose strings have at most 40 bytes. -/
def StIn (v : Value) : Prop := ∃ (k t f o : ByteArray) (n : Int) (b : ByteArray), v = .agg #[.string k, .string t, .string f, .string o, .int .i64 n, .string b] ∧ (k.size ≤ 40 ∧ t.size ≤ 40 ∧ f.size ≤ 40 ∧ o.size ≤ 40 ∧ b.size ≤ 40) ∧ -1 ≤ n ∧ n ≤ 1000000001
theorem lists_st : (∀ s ∈ ([⟨#[]⟩, ⟨#[103, 101, 116]⟩, ⟨#[115, 101, 116]⟩, ⟨#[101, 114, 114, 111, 114]⟩, ⟨#[104, 101, 97, 100, 108, 105, 110, 101]⟩, ⟨#[103, 114, 111, 117, 112, 99, 104, 97, 116]⟩, ⟨#[99, 104, 97, 116]⟩] : List ByteArray), s.size ≤ 40) ∧ (∀ s ∈ ([⟨#[]⟩, ⟨#[97, 110, 110, 64, 97]⟩, ⟨#[98, 111, 98, 64, 98, 47, 104, 111, 109, 101]⟩, ⟨#[97]⟩, ⟨#[97, 110, 110, 64, 97, 47, 120]⟩, ⟨#[99, 64, 97, 46, 98]⟩] : List ByteArray), s.size ≤ 40) ∧ (∀ s ∈ ([⟨#[]⟩, ⟨#[104, 105]⟩, ⟨#[60, 38, 39, 34, 62]⟩, ⟨#[97, 32, 98]⟩] : List ByteArray), s.size ≤ 40) ∧ (∀ s ∈ ([⟨#[65, 64, 98]⟩, ⟨#[64]⟩, ⟨#[97, 47]⟩] : List ByteArray), s.size ≤ 40) ∧ (∀ s ∈ ([kPres, kMess, kIq, kDb] : List ByteArray), s.size ≤ 40) := by decide
theorem src_set6 {W : World} {B g : Nat} (hS : Src W B g) (b : Nat) (hne : b ≠ g) (hB : B ≤ b) (x0 x1 x2 x3 x4 x5 : Value) : Src (put6 W b x0 x1 x2 x3 x4 x5) B g :=
  (((((hS.set b 0 x0 hne hB).set b 1 x1 hne hB).set b 2 x2 hne hB).set b 3 x3 hne hB).set b 4 x4 hne hB).set b 5 x5 hne hB
theorem grown_put6 {w W : World} {r : Option Nat} (hg : w.grownBy W r) (b : Nat) (hb : w.heap.size ≤ b) (x0 x1 x2 x3 x4 x5 : Value) : w.grownBy (put6 W b x0 x1 x2 x3 x4 x5) r :=
  grown_new (grown_new (grown_new (grown_new (grown_new (grown_new hg b 0 x0 hb) b 1 x1 hb) b 2 x2 hb) b 3 x3 hb) b 4 x4 hb) b 5 x5 hb
theorem st_done {w W : World} {B g : Nat} {k t f o : ByteArray} {n : Int} {b : ByteArray} (hS : Src W B g) (hg : w.grownBy W (some g)) (hgw : g < w.heap.size) (hB : B ≤ w.heap.size) (hz : k.size ≤ 40 ∧ t.size ≤ 40 ∧ f.size ≤ 40 ∧ o.size ≤ 40 ∧ b.size ≤ 40) (h1 : -1 ≤ n) (h2 : n ≤ 1000000001) :
    Drew B g w StIn (.returned (.agg #[.string k, .string t, .string f, .string o, .int .i64 n, .string b])) (put6 W w.heap.size (.string k) (.string t) (.string f) (.string o) (.int .i64 n) (.string b)) :=
  ⟨_, rfl, ⟨k, t, f, o, n, b, rfl, hz, h1, h2⟩, src_set6 hS _ (by omega) hB _ _ _ _ _ _, grown_put6 hg _ (Nat.le_refl _) _ _ _ _ _ _⟩

end Go.Proofs.Ytkdljhmenejckaa
