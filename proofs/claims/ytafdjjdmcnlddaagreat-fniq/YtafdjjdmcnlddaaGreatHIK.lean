/- Several parts in one text: StReplyI, StDraws, StReplyS, StFault. -/
import Derived.Test.YtafdjjdmcnlddaaGreatHII
import Derived.Test.YtafdjjdmcnlddaaGreatHIB
import Derived.Test.YtafdjjdmcnlddaaGreatHIS
namespace Go.Proofs.YtafdjjdmcnlddaaGreat
set_option linter.unusedSimpArgs false
set_option linter.unusedVariables false
open Go.RowKit

/-- A slice of one string. -/
def OneStr (W : World) (v : Value) (s : ByteArray) : Prop := ∃ g, v = .slice (some ⟨g, 0, none⟩) 1 1 ∧ W.cell? ⟨g, 0, none⟩ = some (.string s)
theorem OneStr.on {W W' : World} {v : Value} {s : ByteArray} (h : OneStr W v s) (hb : Below W.heap.size W W') : OneStr W' v s := by
  obtain ⟨g, rfl, hc⟩ := h
  exact ⟨g, rfl, (hb.cell (p := ⟨g, 0, none⟩) (lt_of_cellJ hc)).trans hc⟩
theorem oneStr_new (W : World) (s : ByteArray) (t : Nat) : OneStr (W.alloc (.cells #[.string s] t)) (.slice (some ⟨W.heap.size, 0, none⟩) 1 1) s := ⟨_, rfl, one_at W s t⟩
theorem OneStr.joined {W : World} {v : Value} {s : ByteArray} (h : OneStr W v s) (hs : s.size ≤ 2000000) : Calls Tryz.prog 45 #[v] W fun e w' => e = .returned (.string s) ∧ Below W.heap.size W w' := by
  obtain ⟨g, rfl, hc⟩ := h
  exact joined_at g s W hs hc
/-- A new stanza, empty. -/
def ResAt (B : Nat) (W : World) (v : Value) : Prop := ∃ g, v = .pointer (some ⟨g, 0, none⟩) ∧ B ≤ g ∧ Arr W g 28 [.string ⟨#[]⟩, .string ⟨#[]⟩, .string ⟨#[]⟩, .string ⟨#[]⟩, .int .i64 0, .string ⟨#[]⟩]
theorem ResAt.on {B : Nat} {W W' : World} {v : Value} (h : ResAt B W v) (hb : Below W.heap.size W W') : ResAt B W' v := by
  obtain ⟨g, rfl, hB, hA⟩ := h
  exact ⟨g, rfl, hB, arr_below hA hb⟩
theorem resAt_new (B : Nat) (W : World) (h : B ≤ W.heap.size) : ResAt B (W.alloc (.cells #[.string ⟨#[]⟩, .string ⟨#[]⟩, .string ⟨#[]⟩, .string ⟨#[]⟩, .int .i64 0, .string ⟨#[]⟩] 28)) (.pointer (some ⟨W.heap.size, 0, none⟩)) := ⟨_, rfl, h, Arr.fresh W _ _⟩
theorem arr_six0 {w : World} {g t : Nat} {a b c d e f : Value} (h : Arr w g t [a, b, c, d, e, f]) : (w.cell? ⟨g, 0, none⟩ = some a ∧ w.cell? ⟨g, 1, none⟩ = some b ∧ w.cell? ⟨g, 2, none⟩ = some c ∧ w.cell? ⟨g, 3, none⟩ = some d ∧ w.cell? ⟨g, 4, none⟩ = some e ∧ w.cell? ⟨g, 5, none⟩ = some f) ∧
    w.frozen? ⟨g, 0, none⟩ = false ∧ w.frozen? ⟨g, 1, none⟩ = false ∧ w.frozen? ⟨g, 2, none⟩ = false ∧ w.frozen? ⟨g, 3, none⟩ = false ∧ w.frozen? ⟨g, 4, none⟩ = false ∧ w.frozen? ⟨g, 5, none⟩ = false :=
  ⟨⟨h.cell 0, h.cell 1, h.cell 2, h.cell 3, h.cell 4, h.cell 5⟩, h.free 0, h.free 1, h.free 2, h.free 3, h.free 4, h.free 5⟩
def put6 (w : World) (g : Nat) (a b c d e f : Value) : World := (((((w.setCell ⟨g, 0, none⟩ a).setCell ⟨g, 1, none⟩ b).setCell ⟨g, 2, none⟩ c).setCell ⟨g, 3, none⟩ d).setCell ⟨g, 4, none⟩ e).setCell ⟨g, 5, none⟩ f
theorem arr_put6 {w : World} {g t : Nat} {x0 x1 x2 x3 x4 x5 : Value} (h : Arr w g t [x0, x1, x2, x3, x4, x5]) (a b c d e f : Value) : Arr (put6 w g a b c d e f) g t [a, b, c, d, e, f] :=
  (((((h.put 0 a).put 1 b).put 2 c).put 3 d).put 4 e).put 5 f
theorem arr_far6 {w : World} {g g' t : Nat} {cs : List Value} (h : Arr w g t cs) (hne : g ≠ g') (a b c d e f : Value) : Arr (put6 w g' a b c d e f) g t cs := by
  have s : ∀ (w : World) (i : Nat) (u : Value), Arr w g t cs → Arr (w.setCell ⟨g', i, none⟩ u) g t cs := fun w i u h => by
    unfold Arr at h ⊢
    rw [← h]
    exact Below.heap_setCell w ⟨g', i, none⟩ u g (by simpa using hne)
  exact s _ _ _ (s _ _ _ (s _ _ _ (s _ _ _ (s _ _ _ (s _ _ _ h)))))
theorem below_put6 {B g : Nat} {w w1 : World} (h : Below B w w1) (hg : B ≤ g) (a b c d e f : Value) : Below B w (put6 w1 g a b c d e f) :=
  (((((h.setCell (p := ⟨g, 0, none⟩) hg a).setCell (p := ⟨g, 1, none⟩) hg b).setCell (p := ⟨g, 2, none⟩) hg c).setCell (p := ⟨g, 3, none⟩) hg d).setCell (p := ⟨g, 4, none⟩) hg e).setCell (p := ⟨g, 5, none⟩) hg f
/-- What stands all along: the box of the argument, the box of the answer. -/
def RepS (w : World) (k t f o : ByteArray) (n : Int) (b : ByteArray) (W : World) : Prop :=
  (W.cell? ⟨w.heap.size, 0, none⟩ = some (.string k) ∧ W.cell? ⟨w.heap.size, 1, none⟩ = some (.string t) ∧ W.cell? ⟨w.heap.size, 2, none⟩ = some (.string f) ∧ W.cell? ⟨w.heap.size, 3, none⟩ = some (.string o) ∧ W.cell? ⟨w.heap.size, 4, none⟩ = some (.int .i64 n) ∧ W.cell? ⟨w.heap.size, 5, none⟩ = some (.string b)) ∧ (Below w.heap.size w W ∧ Arr W w.heap.size 28 [.string k, .string t, .string f, .string o, .int .i64 n, .string b] ∧ Arr W (w.heap.size + 1) 28 [.string ⟨#[]⟩, .string ⟨#[]⟩, .string ⟨#[]⟩, .string ⟨#[]⟩, .int .i64 0, .string ⟨#[]⟩] ∧ w.heap.size + 2 ≤ W.heap.size)
theorem repS {w : World} {k t f o : ByteArray} {n : Int} {b : ByteArray} {W : World} (hb : Below w.heap.size w W) (h1 : Arr W w.heap.size 28 [.string k, .string t, .string f, .string o, .int .i64 n, .string b]) (h2 : Arr W (w.heap.size + 1) 28 [.string ⟨#[]⟩, .string ⟨#[]⟩, .string ⟨#[]⟩, .string ⟨#[]⟩, .int .i64 0, .string ⟨#[]⟩]) (h3 : w.heap.size + 2 ≤ W.heap.size) : RepS w k t f o n b W :=
  ⟨(arr_six0 h1).1, hb, h1, h2, h3⟩
theorem repS_on {w : World} {k t f o : ByteArray} {n : Int} {b : ByteArray} {W W' : World} (h : RepS w k t f o n b W) (hb : Below W.heap.size W W') : RepS w k t f o n b W' :=
  repS (h.2.1.trans (hb.mono h.2.1.size)) (arr_below h.2.2.1 hb) (arr_below h.2.2.2.1 hb) (Nat.le_trans h.2.2.2.2 hb.size)
theorem repS_put {w : World} {k t f o : ByteArray} {n : Int} {b : ByteArray} {W : World} (h : RepS w k t f o n b W) {g : Nat} (hg : w.heap.size + 2 ≤ g) (x0 x1 x2 x3 x4 x5 : Value) : RepS w k t f o n b (put6 W g x0 x1 x2 x3 x4 x5) :=
  repS (below_put6 h.2.1 (by omega) _ _ _ _ _ _) (arr_far6 h.2.2.1 (by omega) _ _ _ _ _ _) (arr_far6 h.2.2.2.1 (by omega) _ _ _ _ _ _) (Nat.le_trans h.2.2.2.2 (below_put6 (Below.refl _ W) (Nat.zero_le g) x0 x1 x2 x3 x4 x5).size)
/-- What each operation of the answer's making has left. -/
structure RepA (w : World) (k kd o f : ByteArray) (n : Int) (bd : ByteArray) (b1 c1 b2 c2 b3 c3 b4 c4 b5 c5 bu al : Bool) (v10 v11 v13 v14 v17 v18 v21 v22 v26 v27 v28 v7 : Value) (W : World) : Prop where
  p1 : b1 = true → OneStr W v10 k
  q1 : c1 = true → v11 = .string k
  p2 : b2 = true → OneStr W v13 kd
  q2 : c2 = true → v14 = .string kd
  p3 : b3 = true → OneStr W v17 o
  q3 : c3 = true → v18 = .string o
  p4 : b4 = true → OneStr W v21 f
  q4 : c4 = true → v22 = .string f
  p5 : b5 = true → OneStr W v26 bd
  q5 : c5 = true → v27 = .string bd
  pu : bu = true → v28 = .agg #[.string k, .string kd, .string o, .string f, .int .i64 n, .string bd]
  pa : al = true → ResAt (w.heap.size + 2) W v7
theorem RepA.on {w : World} {k kd o f : ByteArray} {n : Int} {bd : ByteArray} {b1 c1 b2 c2 b3 c3 b4 c4 b5 c5 bu al : Bool} {v10 v11 v13 v14 v17 v18 v21 v22 v26 v27 v28 v7 : Value} {W W' : World} (h : RepA w k kd o f n bd b1 c1 b2 c2 b3 c3 b4 c4 b5 c5 bu al v10 v11 v13 v14 v17 v18 v21 v22 v26 v27 v28 v7 W) (hb : Below W.heap.size W W') : RepA w k kd o f n bd b1 c1 b2 c2 b3 c3 b4 c4 b5 c5 bu al v10 v11 v13 v14 v17 v18 v21 v22 v26 v27 v28 v7 W' :=
  { h with
    p1 := fun e => (h.p1 e).on hb
    p2 := fun e => (h.p2 e).on hb
    p3 := fun e => (h.p3 e).on hb
    p4 := fun e => (h.p4 e).on hb
    p5 := fun e => (h.p5 e).on hb
    pa := fun e => (h.pa e).on hb }
/-- The invariant of the region that makes the answer. -/
def RepInv (w : World) (k t f o : ByteArray) (n : Int) (b kd bd : ByteArray) (listed : Array Bool) (a : Act) (W : World) : Prop :=
  ∃ (b1 c1 b2 c2 b3 c3 b4 c4 b5 c5 bu al st : Bool) (v10 v11 v13 v14 v17 v18 v21 v22 v26 v27 v28 v7 : Value), listed = #[true, true, b1, c1, true, b2, c2, true, true, b3, c3, true, true, b4, c4, true, true, true, b5, c5, bu, al, st] ∧
    a = { tmps := #[.agg #[.string k, .string t, .string f, .string o, .int .i64 n, .string b], .string kd, .string bd, .pointer (some ⟨w.heap.size, 0, none⟩), undef, undef, .pointer (some ⟨w.heap.size + 1, 0, none⟩), v7, .pointer (some ⟨w.heap.size, 0, none⟩), .string k, v10, v11, .string kd, v13, v14, .pointer (some ⟨w.heap.size, 3, none⟩), .string o, v17, v18, .pointer (some ⟨w.heap.size, 2, none⟩), .string f, v21, v22, .pointer (some ⟨w.heap.size, 4, none⟩), .int .i64 n, .string bd, v26, v27, v28, undef, undef, undef, undef, undef, undef, undef, undef, undef, undef], defers := [] } ∧ RepS w k t f o n b W ∧ (st = false → RepA w k kd o f n bd b1 c1 b2 c2 b3 c3 b4 c4 b5 c5 bu al v10 v11 v13 v14 v17 v18 v21 v22 v26 v27 v28 v7 W) ∧
    (st = true → b1 = true ∧ c1 = true ∧ b2 = true ∧ c2 = true ∧ b3 = true ∧ c3 = true ∧ b4 = true ∧ c4 = true ∧ b5 = true ∧ c5 = true ∧ bu = true ∧ al = true) ∧ (st = true → ∃ g, v7 = .pointer (some ⟨g, 0, none⟩) ∧ w.heap.size + 2 ≤ g ∧ Arr W g 28 [.string k, .string kd, .string o, .string f, .int .i64 n, .string bd])

noncomputable def repV (k t f o : ByteArray) (n : Int) (b kd bd : ByteArray) : Value :=
  if (stB k t f o n b && stB k kd o f n bd) = true then stV k kd o f n bd else stV ⟨#[]⟩ ⟨#[]⟩ ⟨#[]⟩ ⟨#[]⟩ 0 ⟨#[]⟩
set_option maxRecDepth 100000 in
set_option maxHeartbeats 4000000 in
theorem impl_reply (k t f o : ByteArray) (n : Int) (b kd bd : ByteArray) (w : World) (hk : k.size ≤ 2000000) (ht : t.size ≤ 2000000) (hf : f.size ≤ 2000000) (ho : o.size ≤ 2000000) (hbz : b.size ≤ 2000000) (hkd : kd.size ≤ 2000000) (hbd : bd.size ≤ 2000000) (hm : MaxL w) :
    Calls Tryz.prog 121 #[.agg #[.string k, .string t, .string f, .string o, .int .i64 n, .string b], .string kd, .string bd] w fun e w' => e = .returned (repV k t f o n b kd bd) ∧ Below w.heap.size w w' := by
  have i1 := fun w hm => impl_stright k t f o n b w (by unfold maxLen; omega) (by unfold maxLen; omega) (by unfold maxLen; omega) (by unfold maxLen; omega) hm
  have i2 := fun w hm => impl_stright k kd o f n bd w (by unfold maxLen; omega) (by unfold maxLen; omega) (by unfold maxLen; omega) (by unfold maxLen; omega) hm
  unfold repV
  obtain ⟨x1, h1⟩ : ∃ v, stB k t f o n b = v := ⟨_, rfl⟩
  obtain ⟨x2, h2⟩ : ∃ v, stB k kd o f n bd = v := ⟨_, rfl⟩
  rw [h1] at i1
  rw [h2] at i2
  rw [h1, h2]
  clear h1 h2
  have HM := Lib.hid (fun W (h : Below w.heap.size w W) => hm.below h hm.pos)
  clear hm
  have I1 := Lib.hid i1
  have I2 := Lib.hid i2
  clear i1 i2
  go_enter Tryz.func121, Tryz.ntmps121
  go_wp2
  have hS0 : RepS w k t f o n b ((w.alloc (.cells #[.string k, .string t, .string f, .string o, .int .i64 n, .string b] 28)).alloc (.cells #[.string ⟨#[]⟩, .string ⟨#[]⟩, .string ⟨#[]⟩, .string ⟨#[]⟩, .int .i64 0, .string ⟨#[]⟩] 28)).drew :=
    repS (((Below.refl w.heap.size w).alloc (Nat.le_refl _) _).alloc (by simp) _).drew (arr_alloc (Arr.fresh w _ _) _) (by have := Arr.fresh (w.alloc (.cells #[.string k, .string t, .string f, .string o, .int .i64 n, .string b] 28)) 28 [.string ⟨#[]⟩, .string ⟨#[]⟩, .string ⟨#[]⟩, .string ⟨#[]⟩, .int .i64 0, .string ⟨#[]⟩]; rw [World.size_alloc] at this; exact this) (by simp [size_drew])
  refine wp_region_held_drew (S := (fun W => RepS w k t f o n b W)) (by kernel_rfl) hS0 (fun hHeld => ?_)
  clear hS0
  generalize ((w.alloc (.cells #[.string k, .string t, .string f, .string o, .int .i64 n, .string b] 28)).alloc (.cells #[.string ⟨#[]⟩, .string ⟨#[]⟩, .string ⟨#[]⟩, .string ⟨#[]⟩, .int .i64 0, .string ⟨#[]⟩] 28)).drew = V at hHeld ⊢
  refine takeH (i := 0) (k := 8) (v := .pointer (some ⟨w.heap.size, 0, none⟩)) rfl (by rfl) (by kernel_rfl) (by kernel_rfl) (by kernel_rfl) (fun _ _ _ h => h) (by rfl) ?_ hHeld ?_
  · intro w1 hSw; obtain ⟨⟨p0, p1, p2, p3, p4, p5⟩, _⟩ := hSw; go_simp
  (try simp only [Act.put, List.setIfInBounds_toArray, List.set_cons_zero, List.set_cons_succ])
  refine takeH (i := 1) (k := 9) (v := .string k) rfl (by rfl) (by kernel_rfl) (by kernel_rfl) (by kernel_rfl) (fun _ _ _ h => h) (by rfl) ?_ hHeld ?_
  · intro w1 hSw; obtain ⟨⟨p0, p1, p2, p3, p4, p5⟩, _⟩ := hSw; go_simp
  (try simp only [Act.put, List.setIfInBounds_toArray, List.set_cons_zero, List.set_cons_succ])
  refine takeH (i := 4) (k := 12) (v := .string kd) rfl (by rfl) (by kernel_rfl) (by kernel_rfl) (by kernel_rfl) (fun _ _ _ h => h) (by rfl) ?_ hHeld ?_
  · intro w1 hSw; obtain ⟨⟨p0, p1, p2, p3, p4, p5⟩, _⟩ := hSw; go_simp
  (try simp only [Act.put, List.setIfInBounds_toArray, List.set_cons_zero, List.set_cons_succ])
  refine takeH (i := 7) (k := 15) (v := .pointer (some ⟨w.heap.size, 3, none⟩)) rfl (by rfl) (by kernel_rfl) (by kernel_rfl) (by kernel_rfl) (fun _ _ _ h => h) (by rfl) ?_ hHeld ?_
  · intro w1 hSw; obtain ⟨⟨p0, p1, p2, p3, p4, p5⟩, _⟩ := hSw; go_simp
  (try simp only [Act.put, List.setIfInBounds_toArray, List.set_cons_zero, List.set_cons_succ])
  refine takeH (i := 8) (k := 16) (v := .string o) rfl (by rfl) (by kernel_rfl) (by kernel_rfl) (by kernel_rfl) (fun _ _ _ h => h) (by rfl) ?_ hHeld ?_
  · intro w1 hSw; obtain ⟨⟨p0, p1, p2, p3, p4, p5⟩, _⟩ := hSw; go_simp
  (try simp only [Act.put, List.setIfInBounds_toArray, List.set_cons_zero, List.set_cons_succ])
  refine takeH (i := 11) (k := 19) (v := .pointer (some ⟨w.heap.size, 2, none⟩)) rfl (by rfl) (by kernel_rfl) (by kernel_rfl) (by kernel_rfl) (fun _ _ _ h => h) (by rfl) ?_ hHeld ?_
  · intro w1 hSw; obtain ⟨⟨p0, p1, p2, p3, p4, p5⟩, _⟩ := hSw; go_simp
  (try simp only [Act.put, List.setIfInBounds_toArray, List.set_cons_zero, List.set_cons_succ])
  refine takeH (i := 12) (k := 20) (v := .string f) rfl (by rfl) (by kernel_rfl) (by kernel_rfl) (by kernel_rfl) (fun _ _ _ h => h) (by rfl) ?_ hHeld ?_
  · intro w1 hSw; obtain ⟨⟨p0, p1, p2, p3, p4, p5⟩, _⟩ := hSw; go_simp
  (try simp only [Act.put, List.setIfInBounds_toArray, List.set_cons_zero, List.set_cons_succ])
  refine takeH (i := 15) (k := 23) (v := .pointer (some ⟨w.heap.size, 4, none⟩)) rfl (by rfl) (by kernel_rfl) (by kernel_rfl) (by kernel_rfl) (fun _ _ _ h => h) (by rfl) ?_ hHeld ?_
  · intro w1 hSw; obtain ⟨⟨p0, p1, p2, p3, p4, p5⟩, _⟩ := hSw; go_simp
  (try simp only [Act.put, List.setIfInBounds_toArray, List.set_cons_zero, List.set_cons_succ])
  refine takeH (i := 16) (k := 24) (v := .int .i64 n) rfl (by rfl) (by kernel_rfl) (by kernel_rfl) (by kernel_rfl) (fun _ _ _ h => h) (by rfl) ?_ hHeld ?_
  · intro w1 hSw; obtain ⟨⟨p0, p1, p2, p3, p4, p5⟩, _⟩ := hSw; go_simp
  (try simp only [Act.put, List.setIfInBounds_toArray, List.set_cons_zero, List.set_cons_succ])
  refine takeH (i := 17) (k := 25) (v := .string bd) rfl (by rfl) (by kernel_rfl) (by kernel_rfl) (by kernel_rfl) (fun _ _ _ h => h) (by rfl) ?_ hHeld ?_
  · intro w1 hSw; obtain ⟨⟨p0, p1, p2, p3, p4, p5⟩, _⟩ := hSw; go_simp
  (try simp only [Act.put, List.setIfInBounds_toArray, List.set_cons_zero, List.set_cons_succ])
  refine any_order (RepInv w k t f o n b kd bd) ?step ?done _ _ _ _ (of_decide_eq_true (by kernel_rfl)) ?start
  case start => exact ⟨false, false, false, false, false, false, false, false, false, false, false, false, false, _, _, _, _, _, _, _, _, _, _, _, _, rfl, rfl, hHeld, fun _ => by constructor <;> (intro h; cases h), fun h => (by cases h), fun h => by cases h⟩
  case step =>
    rintro listed a W i ⟨b1, c1, b2, c2, b3, c3, b4, c4, b5, c5, bu, al, st, v10, v11, v13, v14, v17, v18, v21, v22, v26, v27, v28, v7, rfl, rfl, hS, hA, hT, hE⟩ hi
    obtain ⟨hlt, hun, hdep⟩ := ready_spec hi
    clear hi
    have hlt' : i < 23 := hlt
    clear hlt
    have h23 : i = 0 ∨ i = 1 ∨ i = 2 ∨ i = 3 ∨ i = 4 ∨ i = 5 ∨ i = 6 ∨ i = 7 ∨ i = 8 ∨ i = 9 ∨ i = 10 ∨ i = 11 ∨ i = 12 ∨ i = 13 ∨ i = 14 ∨ i = 15 ∨ i = 16 ∨ i = 17 ∨ i = 18 ∨ i = 19 ∨ i = 20 ∨ i = 21 ∨ i = 22 := by omega
    rcases h23 with rfl | rfl | rfl | rfl | rfl | rfl | rfl | rfl | rfl | rfl | rfl | rfl | rfl | rfl | rfl | rfl | rfl | rfl | rfl | rfl | rfl | rfl | rfl
    · cases (show true = false from hun)
    · cases (show true = false from hun)
    · have hun2 : b1 = false := hun
      subst hun2
      obtain rfl : st = false := by
        cases st
        · rfl
        · have := hT rfl; simp at this
      have hA := hA rfl
      clear hdep hun hE hT
      refine wpOp_step rfl (fun K hK => ?_)
      rw [if_pos (by rfl)]
      go_simp
      have hb : Below W.heap.size W (W.alloc (.cells #[.string k] 9)) := (Below.refl _ W).alloc (Nat.le_refl _) _
      exact hK _ _ ⟨repS_on hS hb, true, c1, b2, c2, b3, c3, b4, c4, b5, c5, bu, al, false, _, v11, v13, v14, v17, v18, v21, v22, v26, v27, v28, v7, rfl, rfl, repS_on hS hb, fun _ => { hA.on hb with p1 := fun _ => oneStr_new W k _ }, fun e => (by cases e), fun e => by cases e⟩
    · have hun2 : c1 = false := hun
      subst hun2
      obtain rfl : st = false := by
        cases st
        · rfl
        · have := hT rfl; simp at this
      have hA := hA rfl
      obtain rfl : b1 = true := by cases b1 with | false => exact absurd hdep (by simp [Region.binds]) | true => rfl
      have hj := (hA.p1 rfl).joined (by omega)
      clear hdep hun hE hT
      refine wpOp_step rfl (fun K hK => ?_)
      rw [if_pos (by rfl)]
      go_simp
      go_fit hj
      rintro e w1 ⟨rfl, hb⟩
      clear hj
      exact hK _ _ ⟨repS_on hS hb, true, true, b2, c2, b3, c3, b4, c4, b5, c5, bu, al, false, v10, _, v13, v14, v17, v18, v21, v22, v26, v27, v28, v7, rfl, rfl, repS_on hS hb, fun _ => { hA.on hb with q1 := fun _ => rfl }, fun e => (by cases e), fun e => by cases e⟩
    · cases (show true = false from hun)
    · have hun2 : b2 = false := hun
      subst hun2
      obtain rfl : st = false := by
        cases st
        · rfl
        · have := hT rfl; simp at this
      have hA := hA rfl
      clear hdep hun hE hT
      refine wpOp_step rfl (fun K hK => ?_)
      rw [if_pos (by rfl)]
      go_simp
      have hb : Below W.heap.size W (W.alloc (.cells #[.string kd] 9)) := (Below.refl _ W).alloc (Nat.le_refl _) _
      exact hK _ _ ⟨repS_on hS hb, b1, c1, true, c2, b3, c3, b4, c4, b5, c5, bu, al, false, v10, v11, _, v14, v17, v18, v21, v22, v26, v27, v28, v7, rfl, rfl, repS_on hS hb, fun _ => { hA.on hb with p2 := fun _ => oneStr_new W kd _ }, fun e => (by cases e), fun e => by cases e⟩
    · have hun2 : c2 = false := hun
      subst hun2
      obtain rfl : st = false := by
        cases st
        · rfl
        · have := hT rfl; simp at this
      have hA := hA rfl
      obtain rfl : b2 = true := by cases b2 with | false => exact absurd hdep (by simp [Region.binds]) | true => rfl
      have hj := (hA.p2 rfl).joined (by omega)
      clear hdep hun hE hT
      refine wpOp_step rfl (fun K hK => ?_)
      rw [if_pos (by rfl)]
      go_simp
      go_fit hj
      rintro e w1 ⟨rfl, hb⟩
      clear hj
      exact hK _ _ ⟨repS_on hS hb, b1, c1, true, true, b3, c3, b4, c4, b5, c5, bu, al, false, v10, v11, v13, _, v17, v18, v21, v22, v26, v27, v28, v7, rfl, rfl, repS_on hS hb, fun _ => { hA.on hb with q2 := fun _ => rfl }, fun e => (by cases e), fun e => by cases e⟩
    · cases (show true = false from hun)
    · cases (show true = false from hun)
    · have hun2 : b3 = false := hun
      subst hun2
      obtain rfl : st = false := by
        cases st
        · rfl
        · have := hT rfl; simp at this
      have hA := hA rfl
      clear hdep hun hE hT
      refine wpOp_step rfl (fun K hK => ?_)
      rw [if_pos (by rfl)]
      go_simp
      have hb : Below W.heap.size W (W.alloc (.cells #[.string o] 9)) := (Below.refl _ W).alloc (Nat.le_refl _) _
      exact hK _ _ ⟨repS_on hS hb, b1, c1, b2, c2, true, c3, b4, c4, b5, c5, bu, al, false, v10, v11, v13, v14, _, v18, v21, v22, v26, v27, v28, v7, rfl, rfl, repS_on hS hb, fun _ => { hA.on hb with p3 := fun _ => oneStr_new W o _ }, fun e => (by cases e), fun e => by cases e⟩
    · have hun2 : c3 = false := hun
      subst hun2
      obtain rfl : st = false := by
        cases st
        · rfl
        · have := hT rfl; simp at this
      have hA := hA rfl
      obtain rfl : b3 = true := by cases b3 with | false => exact absurd hdep (by simp [Region.binds]) | true => rfl
      have hj := (hA.p3 rfl).joined (by omega)
      clear hdep hun hE hT
      refine wpOp_step rfl (fun K hK => ?_)
      rw [if_pos (by rfl)]
      go_simp
      go_fit hj
      rintro e w1 ⟨rfl, hb⟩
      clear hj
      exact hK _ _ ⟨repS_on hS hb, b1, c1, b2, c2, true, true, b4, c4, b5, c5, bu, al, false, v10, v11, v13, v14, v17, _, v21, v22, v26, v27, v28, v7, rfl, rfl, repS_on hS hb, fun _ => { hA.on hb with q3 := fun _ => rfl }, fun e => (by cases e), fun e => by cases e⟩
    · cases (show true = false from hun)
    · cases (show true = false from hun)
    · have hun2 : b4 = false := hun
      subst hun2
      obtain rfl : st = false := by
        cases st
        · rfl
        · have := hT rfl; simp at this
      have hA := hA rfl
      clear hdep hun hE hT
      refine wpOp_step rfl (fun K hK => ?_)
      rw [if_pos (by rfl)]
      go_simp
      have hb : Below W.heap.size W (W.alloc (.cells #[.string f] 9)) := (Below.refl _ W).alloc (Nat.le_refl _) _
      exact hK _ _ ⟨repS_on hS hb, b1, c1, b2, c2, b3, c3, true, c4, b5, c5, bu, al, false, v10, v11, v13, v14, v17, v18, _, v22, v26, v27, v28, v7, rfl, rfl, repS_on hS hb, fun _ => { hA.on hb with p4 := fun _ => oneStr_new W f _ }, fun e => (by cases e), fun e => by cases e⟩
    · have hun2 : c4 = false := hun
      subst hun2
      obtain rfl : st = false := by
        cases st
        · rfl
        · have := hT rfl; simp at this
      have hA := hA rfl
      obtain rfl : b4 = true := by cases b4 with | false => exact absurd hdep (by simp [Region.binds]) | true => rfl
      have hj := (hA.p4 rfl).joined (by omega)
      clear hdep hun hE hT
      refine wpOp_step rfl (fun K hK => ?_)
      rw [if_pos (by rfl)]
      go_simp
      go_fit hj
      rintro e w1 ⟨rfl, hb⟩
      clear hj
      exact hK _ _ ⟨repS_on hS hb, b1, c1, b2, c2, b3, c3, true, true, b5, c5, bu, al, false, v10, v11, v13, v14, v17, v18, v21, _, v26, v27, v28, v7, rfl, rfl, repS_on hS hb, fun _ => { hA.on hb with q4 := fun _ => rfl }, fun e => (by cases e), fun e => by cases e⟩
    · cases (show true = false from hun)
    · cases (show true = false from hun)
    · cases (show true = false from hun)
    · have hun2 : b5 = false := hun
      subst hun2
      obtain rfl : st = false := by
        cases st
        · rfl
        · have := hT rfl; simp at this
      have hA := hA rfl
      clear hdep hun hE hT
      refine wpOp_step rfl (fun K hK => ?_)
      rw [if_pos (by rfl)]
      go_simp
      have hb : Below W.heap.size W (W.alloc (.cells #[.string bd] 9)) := (Below.refl _ W).alloc (Nat.le_refl _) _
      exact hK _ _ ⟨repS_on hS hb, b1, c1, b2, c2, b3, c3, b4, c4, true, c5, bu, al, false, v10, v11, v13, v14, v17, v18, v21, v22, _, v27, v28, v7, rfl, rfl, repS_on hS hb, fun _ => { hA.on hb with p5 := fun _ => oneStr_new W bd _ }, fun e => (by cases e), fun e => by cases e⟩
    · have hun2 : c5 = false := hun
      subst hun2
      obtain rfl : st = false := by
        cases st
        · rfl
        · have := hT rfl; simp at this
      have hA := hA rfl
      obtain rfl : b5 = true := by cases b5 with | false => exact absurd hdep (by simp [Region.binds]) | true => rfl
      have hj := (hA.p5 rfl).joined (by omega)
      clear hdep hun hE hT
      refine wpOp_step rfl (fun K hK => ?_)
      rw [if_pos (by rfl)]
      go_simp
      go_fit hj
      rintro e w1 ⟨rfl, hb⟩
      clear hj
      exact hK _ _ ⟨repS_on hS hb, b1, c1, b2, c2, b3, c3, b4, c4, true, true, bu, al, false, v10, v11, v13, v14, v17, v18, v21, v22, v26, _, v28, v7, rfl, rfl, repS_on hS hb, fun _ => { hA.on hb with q5 := fun _ => rfl }, fun e => (by cases e), fun e => by cases e⟩
    · have hun2 : bu = false := hun
      subst hun2
      obtain rfl : st = false := by
        cases st
        · rfl
        · have := hT rfl; simp at this
      have hA := hA rfl
      obtain rfl : c1 = true := by cases c1 with | false => exact absurd hdep (by simp [Region.binds]) | true => rfl
      obtain rfl : c2 = true := by cases c2 with | false => exact absurd hdep (by simp [Region.binds]) | true => rfl
      obtain rfl : c3 = true := by cases c3 with | false => exact absurd hdep (by simp [Region.binds]) | true => rfl
      obtain rfl : c4 = true := by cases c4 with | false => exact absurd hdep (by simp [Region.binds]) | true => rfl
      obtain rfl : c5 = true := by cases c5 with | false => exact absurd hdep (by simp [Region.binds]) | true => rfl
      obtain rfl := hA.q1 rfl
      obtain rfl := hA.q2 rfl
      obtain rfl := hA.q3 rfl
      obtain rfl := hA.q4 rfl
      obtain rfl := hA.q5 rfl
      clear hdep hun hE hT
      refine wpOp_step rfl (fun K hK => ?_)
      rw [if_pos (by rfl)]
      go_simp
      exact hK _ _ ⟨hS, b1, true, b2, true, b3, true, b4, true, b5, true, true, al, false, v10, _, v13, _, v17, _, v21, _, v26, _, _, v7, rfl, rfl, hS, fun _ => { hA with pu := fun _ => rfl }, fun e => (by cases e), fun e => by cases e⟩
    · have hun2 : al = false := hun
      subst hun2
      obtain rfl : st = false := by
        cases st
        · rfl
        · have := hT rfl; simp at this
      have hA := hA rfl
      clear hdep hun hE hT
      refine wpOp_step rfl (fun K hK => ?_)
      rw [if_pos (by rfl)]
      go_simp
      have hb : Below W.heap.size W (W.alloc (.cells #[.string ⟨#[]⟩, .string ⟨#[]⟩, .string ⟨#[]⟩, .string ⟨#[]⟩, .int .i64 0, .string ⟨#[]⟩] 28)) := (Below.refl _ W).alloc (Nat.le_refl _) _
      exact hK _ _ ⟨repS_on hS hb, b1, c1, b2, c2, b3, c3, b4, c4, b5, c5, bu, true, false, v10, v11, v13, v14, v17, v18, v21, v22, v26, v27, v28, _, rfl, rfl, repS_on hS hb, fun _ => { hA.on hb with pa := fun _ => resAt_new _ W hS.2.2.2.2 }, fun e => (by cases e), fun e => by cases e⟩
    · have hun2 : st = false := hun
      subst hun2
      have hA := hA rfl
      obtain rfl : b1 = true := by cases b1 with | false => exact absurd hdep (by simp [Region.binds]) | true => rfl
      obtain rfl : c1 = true := by cases c1 with | false => exact absurd hdep (by simp [Region.binds]) | true => rfl
      obtain rfl : b2 = true := by cases b2 with | false => exact absurd hdep (by simp [Region.binds]) | true => rfl
      obtain rfl : c2 = true := by cases c2 with | false => exact absurd hdep (by simp [Region.binds]) | true => rfl
      obtain rfl : b3 = true := by cases b3 with | false => exact absurd hdep (by simp [Region.binds]) | true => rfl
      obtain rfl : c3 = true := by cases c3 with | false => exact absurd hdep (by simp [Region.binds]) | true => rfl
      obtain rfl : b4 = true := by cases b4 with | false => exact absurd hdep (by simp [Region.binds]) | true => rfl
      obtain rfl : c4 = true := by cases c4 with | false => exact absurd hdep (by simp [Region.binds]) | true => rfl
      obtain rfl : b5 = true := by cases b5 with | false => exact absurd hdep (by simp [Region.binds]) | true => rfl
      obtain rfl : c5 = true := by cases c5 with | false => exact absurd hdep (by simp [Region.binds]) | true => rfl
      obtain rfl : bu = true := by cases bu with | false => exact absurd hdep (by simp [Region.binds]) | true => rfl
      obtain rfl : al = true := by cases al with | false => exact absurd hdep (by simp [Region.binds]) | true => rfl
      obtain rfl := hA.pu rfl
      obtain ⟨g, rfl, hg, hG⟩ := hA.pa rfl
      obtain ⟨⟨c0, c1, c2, c3, c4, c5⟩, f0, f1, f2, f3, f4, f5⟩ := arr_six0 hG
      have HA := Lib.hid hA
      have HG := Lib.hid hG
      have HS := Lib.hid hS
      clear hA hG hS
      clear hdep hun hE hT
      refine wpOp_step rfl (fun K hK => ?_)
      rw [if_pos (by rfl)]
      go_simp
      exact hK _ _ ⟨repS_put HS.out hg _ _ _ _ _ _, true, true, true, true, true, true, true, true, true, true, true, true, true, v10, v11, v13, v14, v17, v18, v21, v22, v26, v27, _, _, rfl, rfl, repS_put HS.out hg _ _ _ _ _ _, fun e => (by cases e), fun _ => ⟨rfl, rfl, rfl, rfl, rfl, rfl, rfl, rfl, rfl, rfl, rfl, rfl⟩, fun _ => ⟨g, rfl, hg, arr_put6 HG.out _ _ _ _ _ _⟩⟩
  case done =>
    rintro listed a W ⟨b1, c1, b2, c2, b3, c3, b4, c4, b5, c5, bu, al, st, v10, v11, v13, v14, v17, v18, v21, v22, v26, v27, v28, v7, rfl, rfl, hS, hA, hT, hE⟩ hr
    obtain rfl : b1 = true := ready_nil hr 2 (show (2 : Nat) < 23 by decide) (by simp [Region.binds])
    obtain rfl : c1 = true := ready_nil hr 3 (show (3 : Nat) < 23 by decide) (by simp [Region.binds])
    obtain rfl : b2 = true := ready_nil hr 5 (show (5 : Nat) < 23 by decide) (by simp [Region.binds])
    obtain rfl : c2 = true := ready_nil hr 6 (show (6 : Nat) < 23 by decide) (by simp [Region.binds])
    obtain rfl : b3 = true := ready_nil hr 9 (show (9 : Nat) < 23 by decide) (by simp [Region.binds])
    obtain rfl : c3 = true := ready_nil hr 10 (show (10 : Nat) < 23 by decide) (by simp [Region.binds])
    obtain rfl : b4 = true := ready_nil hr 13 (show (13 : Nat) < 23 by decide) (by simp [Region.binds])
    obtain rfl : c4 = true := ready_nil hr 14 (show (14 : Nat) < 23 by decide) (by simp [Region.binds])
    obtain rfl : b5 = true := ready_nil hr 18 (show (18 : Nat) < 23 by decide) (by simp [Region.binds])
    obtain rfl : c5 = true := ready_nil hr 19 (show (19 : Nat) < 23 by decide) (by simp [Region.binds])
    obtain rfl : bu = true := ready_nil hr 20 (show (20 : Nat) < 23 by decide) (by simp [Region.binds])
    obtain rfl : al = true := ready_nil hr 21 (show (21 : Nat) < 23 by decide) (by simp [Region.binds])
    obtain rfl : st = true := ready_nil hr 22 (show (22 : Nat) < 23 by decide) (by simp [Region.binds])
    obtain ⟨g, rfl, hg, hG⟩ := hE rfl
    clear hA hT hE hr
    obtain ⟨_, hB, hBox, hRes, hz⟩ := hS
    dsimp only
    have hgl := arr_lt hG
    obtain ⟨⟨p0, p1, p2, p3, p4, p5⟩, _⟩ := arr_six0 hBox
    obtain ⟨⟨r0, r1, r2, r3, r4, r5⟩, _⟩ := arr_six0 hG
    obtain ⟨⟨s0, s1, s2, s3, s4, s5⟩, f0, f1, f2, f3, f4, f5⟩ := arr_six0 hRes
    cases x1
    · go_wp2_with (first
          | (go_at_call 39; go_fit (I1.out _ (HM.out _ hB)); rintro e w1 ⟨rfl, hb2⟩; replace hBox := arr_below hBox hb2; replace hG := arr_below hG hb2; replace hRes := arr_below hRes hb2; replace hB := hB.trans (hb2.mono hB.size); have hgl := arr_lt hG; have hz := arr_lt hRes; clear hb2; obtain ⟨⟨p0, p1, p2, p3, p4, p5⟩, _⟩ := arr_six0 hBox; obtain ⟨⟨r0, r1, r2, r3, r4, r5⟩, _⟩ := arr_six0 hG; obtain ⟨⟨s0, s1, s2, s3, s4, s5⟩, f0, f1, f2, f3, f4, f5⟩ := arr_six0 hRes)
          | (go_at_call 39; go_fit (I2.out _ (HM.out _ hB)); rintro e w1 ⟨rfl, hb2⟩; replace hBox := arr_below hBox hb2; replace hG := arr_below hG hb2; replace hRes := arr_below hRes hb2; replace hB := hB.trans (hb2.mono hB.size); have hgl := arr_lt hG; have hz := arr_lt hRes; clear hb2; obtain ⟨⟨p0, p1, p2, p3, p4, p5⟩, _⟩ := arr_six0 hBox; obtain ⟨⟨r0, r1, r2, r3, r4, r5⟩, _⟩ := arr_six0 hG; obtain ⟨⟨s0, s1, s2, s3, s4, s5⟩, f0, f1, f2, f3, f4, f5⟩ := arr_six0 hRes))
      exact bodyPost_ret (v := stV ⟨#[]⟩ ⟨#[]⟩ ⟨#[]⟩ ⟨#[]⟩ 0 ⟨#[]⟩) (by simp [results, Tryz.results121, go_sem, s0, s1, s2, s3, s4, s5, hz, stV]; try omega) rfl ⟨rfl, below_put6 hB (by omega) _ _ _ _ _ _⟩
    · cases x2
      · go_wp2_with (first
          | (go_at_call 39; go_fit (I1.out _ (HM.out _ hB)); rintro e w1 ⟨rfl, hb2⟩; replace hBox := arr_below hBox hb2; replace hG := arr_below hG hb2; replace hRes := arr_below hRes hb2; replace hB := hB.trans (hb2.mono hB.size); have hgl := arr_lt hG; have hz := arr_lt hRes; clear hb2; obtain ⟨⟨p0, p1, p2, p3, p4, p5⟩, _⟩ := arr_six0 hBox; obtain ⟨⟨r0, r1, r2, r3, r4, r5⟩, _⟩ := arr_six0 hG; obtain ⟨⟨s0, s1, s2, s3, s4, s5⟩, f0, f1, f2, f3, f4, f5⟩ := arr_six0 hRes)
          | (go_at_call 39; go_fit (I2.out _ (HM.out _ hB)); rintro e w1 ⟨rfl, hb2⟩; replace hBox := arr_below hBox hb2; replace hG := arr_below hG hb2; replace hRes := arr_below hRes hb2; replace hB := hB.trans (hb2.mono hB.size); have hgl := arr_lt hG; have hz := arr_lt hRes; clear hb2; obtain ⟨⟨p0, p1, p2, p3, p4, p5⟩, _⟩ := arr_six0 hBox; obtain ⟨⟨r0, r1, r2, r3, r4, r5⟩, _⟩ := arr_six0 hG; obtain ⟨⟨s0, s1, s2, s3, s4, s5⟩, f0, f1, f2, f3, f4, f5⟩ := arr_six0 hRes))
        exact bodyPost_ret (v := stV ⟨#[]⟩ ⟨#[]⟩ ⟨#[]⟩ ⟨#[]⟩ 0 ⟨#[]⟩) (by simp [results, Tryz.results121, go_sem, s0, s1, s2, s3, s4, s5, hz, stV]; try omega) rfl ⟨rfl, below_put6 hB (by omega) _ _ _ _ _ _⟩
      · go_wp2_with (first
          | (go_at_call 39; go_fit (I1.out _ (HM.out _ hB)); rintro e w1 ⟨rfl, hb2⟩; replace hBox := arr_below hBox hb2; replace hG := arr_below hG hb2; replace hRes := arr_below hRes hb2; replace hB := hB.trans (hb2.mono hB.size); have hgl := arr_lt hG; have hz := arr_lt hRes; clear hb2; obtain ⟨⟨p0, p1, p2, p3, p4, p5⟩, _⟩ := arr_six0 hBox; obtain ⟨⟨r0, r1, r2, r3, r4, r5⟩, _⟩ := arr_six0 hG; obtain ⟨⟨s0, s1, s2, s3, s4, s5⟩, f0, f1, f2, f3, f4, f5⟩ := arr_six0 hRes)
          | (go_at_call 39; go_fit (I2.out _ (HM.out _ hB)); rintro e w1 ⟨rfl, hb2⟩; replace hBox := arr_below hBox hb2; replace hG := arr_below hG hb2; replace hRes := arr_below hRes hb2; replace hB := hB.trans (hb2.mono hB.size); have hgl := arr_lt hG; have hz := arr_lt hRes; clear hb2; obtain ⟨⟨p0, p1, p2, p3, p4, p5⟩, _⟩ := arr_six0 hBox; obtain ⟨⟨r0, r1, r2, r3, r4, r5⟩, _⟩ := arr_six0 hG; obtain ⟨⟨s0, s1, s2, s3, s4, s5⟩, f0, f1, f2, f3, f4, f5⟩ := arr_six0 hRes))
        exact bodyPost_ret (v := stV k kd o f n bd) (by simp [results, Tryz.results121, go_sem, s0, s1, s2, s3, s4, s5, hz, stV]; try omega) rfl ⟨rfl, below_put6 hB (by omega) _ _ _ _ _ _⟩
end Go.Proofs.YtafdjjdmcnlddaaGreat

namespace Go.Proofs.YtafdjjdmcnlddaaGreat
set_option linter.unusedSimpArgs false
set_option linter.unusedVariables false
open Go.RowKit

/-- A stanza whose strings have at most 40 bytes. -/
def StIn (v : Value) : Prop := ∃ (k t f o : ByteArray) (n : Int) (b : ByteArray), v = .agg #[.string k, .string t, .string f, .string o, .int .i64 n, .string b] ∧ (k.size ≤ 40 ∧ t.size ≤ 40 ∧ f.size ≤ 40 ∧ o.size ≤ 40 ∧ b.size ≤ 40) ∧ -1 ≤ n ∧ n ≤ 1000000001
theorem lists_st : (∀ s ∈ ([⟨#[]⟩, ⟨#[103, 101, 116]⟩, ⟨#[115, 101, 116]⟩, ⟨#[101, 114, 114, 111, 114]⟩, ⟨#[104, 101, 97, 100, 108, 105, 110, 101]⟩, ⟨#[103, 114, 111, 117, 112, 99, 104, 97, 116]⟩, ⟨#[99, 104, 97, 116]⟩] : List ByteArray), s.size ≤ 40) ∧ (∀ s ∈ ([⟨#[]⟩, ⟨#[97, 110, 110, 64, 97]⟩, ⟨#[98, 111, 98, 64, 98, 47, 104, 111, 109, 101]⟩, ⟨#[97]⟩, ⟨#[97, 110, 110, 64, 97, 47, 120]⟩, ⟨#[99, 64, 97, 46, 98]⟩] : List ByteArray), s.size ≤ 40) ∧ (∀ s ∈ ([⟨#[]⟩, ⟨#[104, 105]⟩, ⟨#[60, 38, 39, 34, 62]⟩, ⟨#[97, 32, 98]⟩] : List ByteArray), s.size ≤ 40) ∧ (∀ s ∈ ([⟨#[65, 64, 98]⟩, ⟨#[64]⟩, ⟨#[97, 47]⟩] : List ByteArray), s.size ≤ 40) ∧ (∀ s ∈ ([kPres, kMess, kIq, kDb] : List ByteArray), s.size ≤ 40) := by decide
theorem src_who (B g : Nat) (w : World) (hS : Src w B g) : Calls Tryz.prog 94 #[.pointer (some ⟨g, 0, none⟩)] w (Drew B g w (StrIn 40)) := by
  have hgw : g < w.heap.size := hS.lt
  have HS := Lib.hid hS
  clear hS
  go_enter Tryz.func94, Tryz.ntmps94
  go_wp2_with fail
  refine (src_pick B g w.heap.size 6 40 _ (by omega) (by omega) (HS.out.alloc _) (by omega) (strRow_at w 9 40 _ [⟨#[]⟩, ⟨#[97, 110, 110, 64, 97]⟩, ⟨#[98, 111, 98, 64, 98, 47, 104, 111, 109, 101]⟩, ⟨#[97]⟩, ⟨#[97, 110, 110, 64, 97, 47, 120]⟩, ⟨#[99, 64, 97, 46, 98]⟩] rfl lists_st.2.1)).mono ?_
  rintro e w1 ⟨_, rfl, ⟨l, rfl, hl⟩, hS1, hg1⟩
  go_wp2
  go_ret
  exact ⟨_, rfl, ⟨l, rfl, hl⟩, hS1, grown_same (grown_alloc (World.grownBy.refl w (some g)) _) hg1⟩
theorem src_set6 {W : World} {B g : Nat} (hS : Src W B g) (b : Nat) (hne : b ≠ g) (hB : B ≤ b) (x0 x1 x2 x3 x4 x5 : Value) : Src (put6 W b x0 x1 x2 x3 x4 x5) B g :=
  (((((hS.set b 0 x0 hne hB).set b 1 x1 hne hB).set b 2 x2 hne hB).set b 3 x3 hne hB).set b 4 x4 hne hB).set b 5 x5 hne hB
theorem grown_put6 {w W : World} {r : Option Nat} (hg : w.grownBy W r) (b : Nat) (hb : w.heap.size ≤ b) (x0 x1 x2 x3 x4 x5 : Value) : w.grownBy (put6 W b x0 x1 x2 x3 x4 x5) r :=
  grown_new (grown_new (grown_new (grown_new (grown_new (grown_new hg b 0 x0 hb) b 1 x1 hb) b 2 x2 hb) b 3 x3 hb) b 4 x4 hb) b 5 x5 hb
theorem st_done {w W : World} {B g : Nat} {k t f o : ByteArray} {n : Int} {b : ByteArray} (hS : Src W B g) (hg : w.grownBy W (some g)) (hgw : g < w.heap.size) (hB : B ≤ w.heap.size) (hz : k.size ≤ 40 ∧ t.size ≤ 40 ∧ f.size ≤ 40 ∧ o.size ≤ 40 ∧ b.size ≤ 40) (h1 : -1 ≤ n) (h2 : n ≤ 1000000001) :
    Drew B g w StIn (.returned (.agg #[.string k, .string t, .string f, .string o, .int .i64 n, .string b])) (put6 W w.heap.size (.string k) (.string t) (.string f) (.string o) (.int .i64 n) (.string b)) :=
  ⟨_, rfl, ⟨k, t, f, o, n, b, rfl, hz, h1, h2⟩, src_set6 hS _ (by omega) hB _ _ _ _ _ _, grown_put6 hg _ (Nat.le_refl _) _ _ _ _ _ _⟩

set_option maxRecDepth 100000 in
set_option maxHeartbeats 4000000 in
theorem src_st (B g : Nat) (w : World) (hS : Src w B g) :
    Calls Tryz.prog 54 #[.pointer (some ⟨g, 0, none⟩)] w (Drew B g w StIn) := by
  obtain ⟨i0, hi, y0, y1, y2⟩ := info_parts info_u8d
  have hgw : g < w.heap.size := hS.lt
  have hBg : B ≤ g := hS.1
  obtain ⟨q1, q2, q3, q4, q5⟩ := lists_st
  have Q1 := Lib.hid q1
  have Q3 := Lib.hid q3
  have Q4 := Lib.hid q4
  have Q5 := Lib.hid q5
  clear q1 q2 q3 q4 q5
  have HS := Lib.hid hS
  clear hS
  go_enter Tryz.func54, Tryz.ntmps54
  go_wp2_with fail
  refine (spec_kinds _).mono ?_
  rintro e w0 ⟨rfl, rfl⟩
  simp only [World.size_alloc]
  go_wp2_with fail
  refine (src_pick B g (w.heap.size + 1) 4 40 _ (by omega) (by omega) ((HS.out.alloc _).alloc _) (by omega) (strRow_at (w.alloc (.cells #[.string ⟨#[]⟩, .string ⟨#[]⟩, .string ⟨#[]⟩, .string ⟨#[]⟩, .int .i64 0, .string ⟨#[]⟩] 28)) 9 40 (w.heap.size + 1) [kPres, kMess, kIq, kDb] (World.size_alloc ..).symm Q5.out)).mono ?_
  rintro e w1 ⟨_, rfl, ⟨k, rfl, hk⟩, hS1, hg1⟩
  have hz1 := hg1.size
  try simp at hz1
  have G0 : (w.alloc (.cells #[.string ⟨#[]⟩, .string ⟨#[]⟩, .string ⟨#[]⟩, .string ⟨#[]⟩, .int .i64 0, .string ⟨#[]⟩] 28)).grownBy w1 (some g) := grown_same (grown_alloc (World.grownBy.refl _ _) _) hg1
  clear hg1
  go_wp2_with fail
  refine (src_pick B g w1.heap.size 7 40 _ (by omega) (by omega) (hS1.alloc _) (by omega) (strRow_at w1 9 40 _ [⟨#[]⟩, ⟨#[103, 101, 116]⟩, ⟨#[115, 101, 116]⟩, ⟨#[101, 114, 114, 111, 114]⟩, ⟨#[104, 101, 97, 100, 108, 105, 110, 101]⟩, ⟨#[103, 114, 111, 117, 112, 99, 104, 97, 116]⟩, ⟨#[99, 104, 97, 116]⟩] rfl Q1.out)).mono ?_
  rintro e w2 ⟨_, rfl, ⟨t, rfl, ht⟩, hS2, hg2⟩
  have hz2 := hg2.size
  try simp at hz2
  replace G0 := grown_same (grown_alloc G0 _) hg2
  clear hg2 hS1
  go_wp2_with fail
  refine (src_who B g _ hS2).mono ?_
  rintro e w3 ⟨_, rfl, ⟨f, rfl, hf⟩, hS3, hg3⟩
  have hz3 := hg3.size
  try simp at hz3
  replace G0 := grown_same G0 hg3
  clear hg3 hS2
  go_wp2_with fail
  refine (src_who B g _ hS3).mono ?_
  rintro e w4 ⟨_, rfl, ⟨o, rfl, ho⟩, hS4, hg4⟩
  have hz4 := hg4.size
  try simp at hz4
  replace G0 := grown_same G0 hg4
  clear hg4 hS3
  go_wp2_with fail
  refine (src_n B g 5 _ (by omega) hS4).mono ?_
  rintro e w5 ⟨_, rfl, ⟨n, rfl, n0, n1⟩, hS5, hg5⟩
  have hz5 := hg5.size
  try simp at hz5
  replace G0 := grown_same G0 hg5
  clear hg5 hS4
  go_wp2_with fail
  refine (src_pick B g w5.heap.size 4 40 _ (by omega) (by omega) (hS5.alloc _) (by omega) (strRow_at w5 9 40 _ [⟨#[]⟩, ⟨#[104, 105]⟩, ⟨#[60, 38, 39, 34, 62]⟩, ⟨#[97, 32, 98]⟩] rfl Q3.out)).mono ?_
  rintro e w6 ⟨_, rfl, ⟨b, rfl, hb⟩, hS6, hg6⟩
  have hz6 := hg6.size
  try simp at hz6
  replace G0 := grown_same (grown_alloc G0 _) hg6
  clear hg6 hS5
  go_wp2_with fail
  refine (src_one B g 12 _ (by omega) (hS6.alloc _)).mono ?_
  rintro e w7 ⟨_, rfl, ⟨q, rfl⟩, hS7, hg7⟩
  have hz7 := hg7.size
  try simp at hz7
  have hJ : Arr w7 w6.heap.size 28 [.string k, .string t, .string f, .string o, .int .i64 n, .string b] := (Arr.fresh w6 28 [.string k, .string t, .string f, .string o, .int .i64 n, .string b]).other hg7 (fun e => by injection e; omega)
  replace G0 := grown_same (grown_alloc G0 _) hg7
  clear hg7 hS6
  cases q
  · have hR : Arr w7 w.heap.size 28 [.string ⟨#[]⟩, .string ⟨#[]⟩, .string ⟨#[]⟩, .string ⟨#[]⟩, .int .i64 0, .string ⟨#[]⟩] := (Arr.fresh w 28 [.string ⟨#[]⟩, .string ⟨#[]⟩, .string ⟨#[]⟩, .string ⟨#[]⟩, .int .i64 0, .string ⟨#[]⟩]).other G0 (fun e => by injection e; omega)
    obtain ⟨⟨c0, c1, c2, c3, c4, c5⟩, d0, d1, d2, d3, d4, d5⟩ := arr_six0 hJ
    obtain ⟨⟨p0, p1, p2, p3, p4, p5⟩, f0, f1, f2, f3, f4, f5⟩ := arr_six0 hR
    have hne : w6.heap.size ≠ w.heap.size := by omega
    have HG := Lib.hid (grown_same (grown_alloc (World.grownBy.refl w (some g)) _) G0)
    have HSx := Lib.hid (hS7)
    clear hJ hR G0 hS7
    go_wp2
    exact bodyPost_ret (v := .agg #[.string k, .string t, .string f, .string o, .int .i64 n, .string b]) (by simp [results, Tryz.results54, go_sem, p0, p1, p2, p3, p4, p5]; try omega) rfl (st_done HSx.out HG.out hgw (by omega) ⟨hk, ht, hf, ho, hb⟩ (by omega) (by omega))
  · go_wp2_with fail
    refine (src_n B g 5 _ (by omega) hS7).mono ?_
    rintro e w8 ⟨_, rfl, ⟨m, rfl, m0, m1⟩, hS8, hg8⟩
    replace hJ := hJ.other hg8 (fun e => by injection e; omega)
    replace G0 := grown_same G0 hg8
    have hz8 := hg8.size
    clear hg8 hS7
    have m5 : m = 0 ∨ m = 1 ∨ m = 2 ∨ m = 3 ∨ m = 4 := by omega
    rcases m5 with rfl | rfl | rfl | rfl | rfl
    · have hR : Arr w8 w.heap.size 28 [.string ⟨#[]⟩, .string ⟨#[]⟩, .string ⟨#[]⟩, .string ⟨#[]⟩, .int .i64 0, .string ⟨#[]⟩] := (Arr.fresh w 28 [.string ⟨#[]⟩, .string ⟨#[]⟩, .string ⟨#[]⟩, .string ⟨#[]⟩, .int .i64 0, .string ⟨#[]⟩]).other G0 (fun e => by injection e; omega)
      obtain ⟨⟨c0, c1, c2, c3, c4, c5⟩, d0, d1, d2, d3, d4, d5⟩ := arr_six0 hJ
      obtain ⟨⟨p0, p1, p2, p3, p4, p5⟩, f0, f1, f2, f3, f4, f5⟩ := arr_six0 hR
      have hne : w6.heap.size ≠ w.heap.size := by omega
      have HG := Lib.hid (grown_new (grown_same (grown_alloc (World.grownBy.refl w (some g)) _) G0) w6.heap.size 0 (.string ⟨#[120]⟩) (by omega))
      have HSx := Lib.hid (hS8.set w6.heap.size 0 (.string ⟨#[120]⟩) (by omega) (by omega))
      clear hJ hR G0 hS8
      go_wp2
      exact bodyPost_ret (v := .agg #[.string ⟨#[120]⟩, .string t, .string f, .string o, .int .i64 n, .string b]) (by simp [results, Tryz.results54, go_sem, p0, p1, p2, p3, p4, p5]; try omega) rfl (st_done HSx.out HG.out hgw (by omega) ⟨(by decide), ht, hf, ho, hb⟩ (by omega) (by omega))
    · have hR : Arr w8 w.heap.size 28 [.string ⟨#[]⟩, .string ⟨#[]⟩, .string ⟨#[]⟩, .string ⟨#[]⟩, .int .i64 0, .string ⟨#[]⟩] := (Arr.fresh w 28 [.string ⟨#[]⟩, .string ⟨#[]⟩, .string ⟨#[]⟩, .string ⟨#[]⟩, .int .i64 0, .string ⟨#[]⟩]).other G0 (fun e => by injection e; omega)
      obtain ⟨⟨c0, c1, c2, c3, c4, c5⟩, d0, d1, d2, d3, d4, d5⟩ := arr_six0 hJ
      obtain ⟨⟨p0, p1, p2, p3, p4, p5⟩, f0, f1, f2, f3, f4, f5⟩ := arr_six0 hR
      have hne : w6.heap.size ≠ w.heap.size := by omega
      have HG := Lib.hid (grown_new (grown_same (grown_alloc (World.grownBy.refl w (some g)) _) G0) w6.heap.size 1 (.string ⟨#[65]⟩) (by omega))
      have HSx := Lib.hid (hS8.set w6.heap.size 1 (.string ⟨#[65]⟩) (by omega) (by omega))
      clear hJ hR G0 hS8
      go_wp2
      exact bodyPost_ret (v := .agg #[.string k, .string ⟨#[65]⟩, .string f, .string o, .int .i64 n, .string b]) (by simp [results, Tryz.results54, go_sem, p0, p1, p2, p3, p4, p5]; try omega) rfl (st_done HSx.out HG.out hgw (by omega) ⟨hk, (by decide), hf, ho, hb⟩ (by omega) (by omega))
    · go_wp2_with fail
      refine (src_pick B g w8.heap.size 3 40 _ (by omega) (by omega) (hS8.alloc _) (by omega) (strRow_at w8 9 40 _ [⟨#[65, 64, 98]⟩, ⟨#[64]⟩, ⟨#[97, 47]⟩] rfl Q4.out)).mono ?_
      rintro e w9 ⟨_, rfl, ⟨x, rfl, hx⟩, hS9, hg9⟩
      replace hJ := (hJ.alloc _).other hg9 (fun e => by injection e; omega)
      replace G0 := grown_same (grown_alloc G0 _) hg9
      have hz9 := hg9.size
      simp at hz9
      clear hg9 hS8
      have hR : Arr w9 w.heap.size 28 [.string ⟨#[]⟩, .string ⟨#[]⟩, .string ⟨#[]⟩, .string ⟨#[]⟩, .int .i64 0, .string ⟨#[]⟩] := (Arr.fresh w 28 [.string ⟨#[]⟩, .string ⟨#[]⟩, .string ⟨#[]⟩, .string ⟨#[]⟩, .int .i64 0, .string ⟨#[]⟩]).other G0 (fun e => by injection e; omega)
      obtain ⟨⟨c0, c1, c2, c3, c4, c5⟩, d0, d1, d2, d3, d4, d5⟩ := arr_six0 hJ
      obtain ⟨⟨p0, p1, p2, p3, p4, p5⟩, f0, f1, f2, f3, f4, f5⟩ := arr_six0 hR
      have hne : w6.heap.size ≠ w.heap.size := by omega
      have HG := Lib.hid (grown_new (grown_same (grown_alloc (World.grownBy.refl w (some g)) _) G0) w6.heap.size 2 (.string x) (by omega))
      have HSx := Lib.hid (hS9.set w6.heap.size 2 (.string x) (by omega) (by omega))
      clear hJ hR G0 hS9
      go_wp2
      exact bodyPost_ret (v := .agg #[.string k, .string t, .string x, .string o, .int .i64 n, .string b]) (by simp [results, Tryz.results54, go_sem, p0, p1, p2, p3, p4, p5]; try omega) rfl (st_done HSx.out HG.out hgw (by omega) ⟨hk, ht, hx, ho, hb⟩ (by omega) (by omega))
    · go_wp2_with fail
      refine (src_n B g 3 _ (by omega) (hS8.alloc _)).mono ?_
      rintro e w9 ⟨_, rfl, ⟨x, rfl, x0, x1⟩, hS9, hg9⟩
      replace hJ := (hJ.alloc _).other hg9 (fun e => by injection e; omega)
      have hI : Arr w9 w8.heap.size 2 [.int .i64 (-1), .int .i64 1000000000, .int .i64 1000000001] := (Arr.fresh w8 2 [.int .i64 (-1), .int .i64 1000000000, .int .i64 1000000001]).other hg9 (fun e => by injection e; omega)
      replace G0 := grown_same (grown_alloc G0 _) hg9
      have hz9 := hg9.size
      simp at hz9
      clear hg9 hS8
      have x3 : x = 0 ∨ x = 1 ∨ x = 2 := by omega
      obtain ⟨j0, j1, j2, _⟩ := arr_three hI
      clear hI
      rcases x3 with rfl | rfl | rfl
      · have hR : Arr w9 w.heap.size 28 [.string ⟨#[]⟩, .string ⟨#[]⟩, .string ⟨#[]⟩, .string ⟨#[]⟩, .int .i64 0, .string ⟨#[]⟩] := (Arr.fresh w 28 [.string ⟨#[]⟩, .string ⟨#[]⟩, .string ⟨#[]⟩, .string ⟨#[]⟩, .int .i64 0, .string ⟨#[]⟩]).other G0 (fun e => by injection e; omega)
        obtain ⟨⟨c0, c1, c2, c3, c4, c5⟩, d0, d1, d2, d3, d4, d5⟩ := arr_six0 hJ
        obtain ⟨⟨p0, p1, p2, p3, p4, p5⟩, f0, f1, f2, f3, f4, f5⟩ := arr_six0 hR
        have hne : w6.heap.size ≠ w.heap.size := by omega
        have HG := Lib.hid (grown_new (grown_same (grown_alloc (World.grownBy.refl w (some g)) _) G0) w6.heap.size 4 (.int .i64 (-1)) (by omega))
        have HSx := Lib.hid (hS9.set w6.heap.size 4 (.int .i64 (-1)) (by omega) (by omega))
        clear hJ hR G0 hS9
        go_wp2
        exact bodyPost_ret (v := .agg #[.string k, .string t, .string f, .string o, .int .i64 (-1), .string b]) (by simp [results, Tryz.results54, go_sem, p0, p1, p2, p3, p4, p5]; try omega) rfl (st_done HSx.out HG.out hgw (by omega) ⟨hk, ht, hf, ho, hb⟩ (by omega) (by omega))
      · have hR : Arr w9 w.heap.size 28 [.string ⟨#[]⟩, .string ⟨#[]⟩, .string ⟨#[]⟩, .string ⟨#[]⟩, .int .i64 0, .string ⟨#[]⟩] := (Arr.fresh w 28 [.string ⟨#[]⟩, .string ⟨#[]⟩, .string ⟨#[]⟩, .string ⟨#[]⟩, .int .i64 0, .string ⟨#[]⟩]).other G0 (fun e => by injection e; omega)
        obtain ⟨⟨c0, c1, c2, c3, c4, c5⟩, d0, d1, d2, d3, d4, d5⟩ := arr_six0 hJ
        obtain ⟨⟨p0, p1, p2, p3, p4, p5⟩, f0, f1, f2, f3, f4, f5⟩ := arr_six0 hR
        have hne : w6.heap.size ≠ w.heap.size := by omega
        have HG := Lib.hid (grown_new (grown_same (grown_alloc (World.grownBy.refl w (some g)) _) G0) w6.heap.size 4 (.int .i64 1000000000) (by omega))
        have HSx := Lib.hid (hS9.set w6.heap.size 4 (.int .i64 1000000000) (by omega) (by omega))
        clear hJ hR G0 hS9
        go_wp2
        exact bodyPost_ret (v := .agg #[.string k, .string t, .string f, .string o, .int .i64 1000000000, .string b]) (by simp [results, Tryz.results54, go_sem, p0, p1, p2, p3, p4, p5]; try omega) rfl (st_done HSx.out HG.out hgw (by omega) ⟨hk, ht, hf, ho, hb⟩ (by omega) (by omega))
      · have hR : Arr w9 w.heap.size 28 [.string ⟨#[]⟩, .string ⟨#[]⟩, .string ⟨#[]⟩, .string ⟨#[]⟩, .int .i64 0, .string ⟨#[]⟩] := (Arr.fresh w 28 [.string ⟨#[]⟩, .string ⟨#[]⟩, .string ⟨#[]⟩, .string ⟨#[]⟩, .int .i64 0, .string ⟨#[]⟩]).other G0 (fun e => by injection e; omega)
        obtain ⟨⟨c0, c1, c2, c3, c4, c5⟩, d0, d1, d2, d3, d4, d5⟩ := arr_six0 hJ
        obtain ⟨⟨p0, p1, p2, p3, p4, p5⟩, f0, f1, f2, f3, f4, f5⟩ := arr_six0 hR
        have hne : w6.heap.size ≠ w.heap.size := by omega
        have HG := Lib.hid (grown_new (grown_same (grown_alloc (World.grownBy.refl w (some g)) _) G0) w6.heap.size 4 (.int .i64 1000000001) (by omega))
        have HSx := Lib.hid (hS9.set w6.heap.size 4 (.int .i64 1000000001) (by omega) (by omega))
        clear hJ hR G0 hS9
        go_wp2
        exact bodyPost_ret (v := .agg #[.string k, .string t, .string f, .string o, .int .i64 1000000001, .string b]) (by simp [results, Tryz.results54, go_sem, p0, p1, p2, p3, p4, p5]; try omega) rfl (st_done HSx.out HG.out hgw (by omega) ⟨hk, ht, hf, ho, hb⟩ (by omega) (by omega))
    · have hmk : ∀ u : World, (Instr.makeSlice 22 (.int .i64 3) (.int .i64 3)).run Tryz.prog u = .ok (.slice (some ⟨u.heap.size, 0, none⟩) 3 3) (u.alloc (.cells (madeCells #[.int .u8 0] 3) 5)) := fun u => by
        have h := run_make (P := Tryz.prog) u 22 5 i0 (.int .u8 0) Tryz.underlying22 hi y0 .i64 .i64 3 3 (by omega) (Int.le_refl _) (by rw [y2]; omega) (by omega)
        simpa [y1, Value.cells] using h
      have hcv := run_string_made (P := Tryz.prog) w8 22 9 5 3 Tryz.underlying22 Tryz.underlying5 Tryz.underlying9
      obtain ⟨Z, hZ⟩ : ∃ Z, Z = strOf (List.replicate 3 0) := ⟨_, rfl⟩
      rw [← hZ] at hcv
      have HZ : Hid (∀ s ∈ ([⟨#[10]⟩, Z, ⟨#[127]⟩] : List ByteArray), s.size ≤ 40) := Lib.hid (by rw [hZ]; decide)
      clear hZ
      go_wp2_with fail
      refine (src_pick B g (w8.heap.size + 1) 3 40 _ (by omega) (by omega) ((hS8.alloc _).alloc _) (by omega) (strRow_at (w8.alloc (.cells (madeCells #[.int .u8 0] 3) 5)) 9 40 _ [⟨#[10]⟩, Z, ⟨#[127]⟩] (World.size_alloc ..).symm HZ.out)).mono ?_
      rintro e w9 ⟨_, rfl, ⟨x, rfl, hx⟩, hS9, hg9⟩
      replace hJ := ((hJ.alloc _).alloc _).other hg9 (fun e => by injection e; omega)
      replace G0 := grown_same (grown_alloc (grown_alloc G0 _) _) hg9
      have hz9 := hg9.size
      simp at hz9
      clear hg9 hS8 hmk hcv
      have hR : Arr w9 w.heap.size 28 [.string ⟨#[]⟩, .string ⟨#[]⟩, .string ⟨#[]⟩, .string ⟨#[]⟩, .int .i64 0, .string ⟨#[]⟩] := (Arr.fresh w 28 [.string ⟨#[]⟩, .string ⟨#[]⟩, .string ⟨#[]⟩, .string ⟨#[]⟩, .int .i64 0, .string ⟨#[]⟩]).other G0 (fun e => by injection e; omega)
      obtain ⟨⟨c0, c1, c2, c3, c4, c5⟩, d0, d1, d2, d3, d4, d5⟩ := arr_six0 hJ
      obtain ⟨⟨p0, p1, p2, p3, p4, p5⟩, f0, f1, f2, f3, f4, f5⟩ := arr_six0 hR
      have hne : w6.heap.size ≠ w.heap.size := by omega
      have HG := Lib.hid (grown_new (grown_same (grown_alloc (World.grownBy.refl w (some g)) _) G0) w6.heap.size 5 (.string x) (by omega))
      have HSx := Lib.hid (hS9.set w6.heap.size 5 (.string x) (by omega) (by omega))
      clear hJ hR G0 hS9
      go_wp2
      exact bodyPost_ret (v := .agg #[.string k, .string t, .string f, .string o, .int .i64 n, .string x]) (by simp [results, Tryz.results54, go_sem, p0, p1, p2, p3, p4, p5]; try omega) rfl (st_done HSx.out HG.out hgw (by omega) ⟨hk, ht, hf, ho, hx⟩ (by omega) (by omega))
end Go.Proofs.YtafdjjdmcnlddaaGreat

namespace Go.Proofs.YtafdjjdmcnlddaaGreat
set_option linter.unusedSimpArgs false
set_option linter.unusedVariables false
open Go.RowKit

/-- The two boxes that a function on a stanza lays: its argument's, its answer's. -/
theorem two_boxes {w w1 : World} {k t f o : ByteArray} {n : Int} {b : ByteArray} (h : Below ((w.alloc (.cells #[.string k, .string t, .string f, .string o, .int .i64 n, .string b] 28)).alloc (.cells #[.string ⟨#[]⟩, .string ⟨#[]⟩, .string ⟨#[]⟩, .string ⟨#[]⟩, .int .i64 0, .string ⟨#[]⟩] 28)).heap.size ((w.alloc (.cells #[.string k, .string t, .string f, .string o, .int .i64 n, .string b] 28)).alloc (.cells #[.string ⟨#[]⟩, .string ⟨#[]⟩, .string ⟨#[]⟩, .string ⟨#[]⟩, .int .i64 0, .string ⟨#[]⟩] 28)) w1) : RepS w k t f o n b w1 := by
  have h0 : RepS w k t f o n b ((w.alloc (.cells #[.string k, .string t, .string f, .string o, .int .i64 n, .string b] 28)).alloc (.cells #[.string ⟨#[]⟩, .string ⟨#[]⟩, .string ⟨#[]⟩, .string ⟨#[]⟩, .int .i64 0, .string ⟨#[]⟩] 28)) :=
    repS (((Below.refl w.heap.size w).alloc (Nat.le_refl _) _).alloc (by simp) _) (arr_alloc (Arr.fresh w _ _) _) (by have := Arr.fresh (w.alloc (.cells #[.string k, .string t, .string f, .string o, .int .i64 n, .string b] 28)) 28 [.string ⟨#[]⟩, .string ⟨#[]⟩, .string ⟨#[]⟩, .string ⟨#[]⟩, .int .i64 0, .string ⟨#[]⟩]; rw [World.size_alloc] at this; exact this) (by simp)
  exact repS_on h0 h
theorem third_box {w w1 : World} {o1 o2 : Obj} {cs : List Value} {t : Nat} (h : Below (((w.alloc o1).alloc o2).alloc (.cells cs.toArray t)).heap.size (((w.alloc o1).alloc o2).alloc (.cells cs.toArray t)) w1) : Arr w1 (w.heap.size + 2) t cs := by
  have := arr_below (Arr.fresh ((w.alloc o1).alloc o2) t cs) h
  rw [World.size_alloc, World.size_alloc] at this
  exact this
/-- What l04Reply answers. -/
noncomputable def l4V (k f o : ByteArray) (n : Int) (kd bd : ByteArray) : Value := if stB k kd o f n bd = true then stV k kd o f n bd else stV ⟨#[]⟩ ⟨#[]⟩ ⟨#[]⟩ ⟨#[]⟩ 0 ⟨#[]⟩
theorem cells_of_s {w : World} {k t f o : ByteArray} {n : Int} {b : ByteArray} {W : World} (h : RepS w k t f o n b W) :
    ((W.cell? ⟨w.heap.size, 0, none⟩ = some (.string k) ∧ W.cell? ⟨w.heap.size, 1, none⟩ = some (.string t) ∧ W.cell? ⟨w.heap.size, 2, none⟩ = some (.string f) ∧ W.cell? ⟨w.heap.size, 3, none⟩ = some (.string o) ∧ W.cell? ⟨w.heap.size, 4, none⟩ = some (.int .i64 n) ∧ W.cell? ⟨w.heap.size, 5, none⟩ = some (.string b)) ∧
     (W.cell? ⟨w.heap.size + 1, 0, none⟩ = some (.string ⟨#[]⟩) ∧ W.cell? ⟨w.heap.size + 1, 1, none⟩ = some (.string ⟨#[]⟩) ∧ W.cell? ⟨w.heap.size + 1, 2, none⟩ = some (.string ⟨#[]⟩) ∧ W.cell? ⟨w.heap.size + 1, 3, none⟩ = some (.string ⟨#[]⟩) ∧ W.cell? ⟨w.heap.size + 1, 4, none⟩ = some (.int .i64 0) ∧ W.cell? ⟨w.heap.size + 1, 5, none⟩ = some (.string ⟨#[]⟩))) ∧
    (W.frozen? ⟨w.heap.size + 1, 0, none⟩ = false ∧ W.frozen? ⟨w.heap.size + 1, 1, none⟩ = false ∧ W.frozen? ⟨w.heap.size + 1, 2, none⟩ = false ∧ W.frozen? ⟨w.heap.size + 1, 3, none⟩ = false ∧ W.frozen? ⟨w.heap.size + 1, 4, none⟩ = false ∧ W.frozen? ⟨w.heap.size + 1, 5, none⟩ = false) ∧ w.heap.size + 1 < W.heap.size :=
  ⟨⟨h.1, (arr_six0 h.2.2.2.1).1⟩, (arr_six0 h.2.2.2.1).2, by have := h.2.2.2.2; omega⟩
theorem repS_ans {w : World} {k t f o : ByteArray} {n : Int} {b : ByteArray} {W : World} (h : RepS w k t f o n b W) (x0 x1 x2 x3 x4 x5 : Value) : Below w.heap.size w (put6 W (w.heap.size + 1) x0 x1 x2 x3 x4 x5) :=
  below_put6 h.2.1 (by omega) _ _ _ _ _ _

set_option maxRecDepth 100000 in
set_option maxHeartbeats 2000000 in
theorem spec_l04reply (k t f o : ByteArray) (n : Int) (b kd bd : ByteArray) (w : World) (hkd : kd.size ≤ maxLen) (hf : f.size ≤ 2000000) (ho : o.size ≤ 2000000) (hbd : bd.size ≤ maxLen) :
    Calls Tryz.prog 67 #[.agg #[.string k, .string t, .string f, .string o, .int .i64 n, .string b], .string kd, .string bd] w fun e w' => e = .returned (l4V k f o n kd bd) ∧ Below w.heap.size w w' := by
  have i1 := fun w => spec_stright k kd o f n bd w hkd ho hf hbd
  unfold l4V
  obtain ⟨x, hx⟩ : ∃ v, stB k kd o f n bd = v := ⟨_, rfl⟩
  rw [hx] at i1 ⊢
  clear hx
  cases x
  · rw [if_neg Bool.false_ne_true]
    go_enter Tryz.func67, Tryz.ntmps67
    go_wp2_with (go_at_call 41; go_fit (i1 _); rintro e w1 ⟨rfl, hb⟩; have hS := two_boxes (below_one hb); obtain ⟨⟨⟨p0, p1, p2, p3, p4, p5⟩, s0, s1, s2, s3, s4, s5⟩, ⟨f0, f1, f2, f3, f4, f5⟩, hz⟩ := cells_of_s hS; have HS := Lib.hid hS; clear hS)
    exact bodyPost_ret (v := stV ⟨#[]⟩ ⟨#[]⟩ ⟨#[]⟩ ⟨#[]⟩ 0 ⟨#[]⟩) (by simp [results, Tryz.results67, go_sem, s0, s1, s2, s3, s4, s5, hz, stV]; try omega) rfl ⟨rfl, repS_ans HS.out _ _ _ _ _ _⟩
  · rw [if_pos rfl]
    go_enter Tryz.func67, Tryz.ntmps67
    go_wp2_with (go_at_call 41; go_fit (i1 _); rintro e w1 ⟨rfl, hb⟩; have hA : Arr w1 (w.heap.size + 2) 28 [.string k, .string kd, .string o, .string f, .int .i64 n, .string bd] := third_box hb; have hS := two_boxes (below_one hb); obtain ⟨⟨⟨p0, p1, p2, p3, p4, p5⟩, s0, s1, s2, s3, s4, s5⟩, ⟨f0, f1, f2, f3, f4, f5⟩, hz⟩ := cells_of_s hS; have HS := Lib.hid hS; clear hS; obtain ⟨⟨a0, a1, a2, a3, a4, a5⟩, _⟩ := arr_six0 hA; clear hA)
    exact bodyPost_ret (v := stV k kd o f n bd) (by simp [results, Tryz.results67, go_sem, s0, s1, s2, s3, s4, s5, hz, stV]; try omega) rfl ⟨rfl, repS_ans HS.out _ _ _ _ _ _⟩

theorem repV_no {k t f o : ByteArray} {n : Int} {b kd bd : ByteArray} (h : stB k t f o n b = false) : repV k t f o n b kd bd = stV ⟨#[]⟩ ⟨#[]⟩ ⟨#[]⟩ ⟨#[]⟩ 0 ⟨#[]⟩ := by unfold repV; rw [h]; rfl
theorem repV_l4 {k t f o : ByteArray} {n : Int} {b kd bd : ByteArray} (h : stB k t f o n b = true) : repV k t f o n b kd bd = l4V k f o n kd bd := by unfold repV l4V; rw [h, Bool.true_and]
theorem l4_form (k f o : ByteArray) (n : Int) (kd bd : ByteArray) : ∃ a b c d m e, l4V k f o n kd bd = stV a b c d m e := by
  unfold l4V
  split
  · exact ⟨_, _, _, _, _, _, rfl⟩
  · exact ⟨_, _, _, _, _, _, rfl⟩
end Go.Proofs.YtafdjjdmcnlddaaGreat

namespace Go.Proofs.YtafdjjdmcnlddaaGreat
set_option linter.unusedSimpArgs false
set_option linter.unusedVariables false
open Go.RowKit

def errS : ByteArray := ⟨#[101, 114, 114, 111, 114]⟩
theorem err_list : errS.toList = [101, 114, 114, 111, 114] := by rw [ByteArray.toList_eq]; rfl
/-- What Fault answers. -/
noncomputable def fltV (k t f o : ByteArray) (n : Int) (b nm : ByteArray) : Value :=
  if ((t.toList == errS.toList) || !nameB nm) = true then stV ⟨#[]⟩ ⟨#[]⟩ ⟨#[]⟩ ⟨#[]⟩ 0 ⟨#[]⟩ else repV k t f o n b errS nm
theorem fltV_yes {k t f o : ByteArray} {n : Int} {b nm : ByteArray} (h : (t.toList == errS.toList) = true) : fltV k t f o n b nm = stV ⟨#[]⟩ ⟨#[]⟩ ⟨#[]⟩ ⟨#[]⟩ 0 ⟨#[]⟩ := by unfold fltV; rw [h]; rfl
theorem fltV_bad {k t f o : ByteArray} {n : Int} {b nm : ByteArray} (h : nameB nm = false) : fltV k t f o n b nm = stV ⟨#[]⟩ ⟨#[]⟩ ⟨#[]⟩ ⟨#[]⟩ 0 ⟨#[]⟩ := by unfold fltV; rw [h, Bool.not_false, Bool.or_true]; rfl
theorem fltV_rep {k t f o : ByteArray} {n : Int} {b nm : ByteArray} (h1 : (t.toList == errS.toList) = false) (h2 : nameB nm = true) : fltV k t f o n b nm = repV k t f o n b errS nm := by unfold fltV; rw [h1, h2]; rfl
theorem rep_form (k t f o : ByteArray) (n : Int) (b kd bd : ByteArray) : ∃ x y z u m v, repV k t f o n b kd bd = stV x y z u m v := by
  unfold repV
  split
  · exact ⟨_, _, _, _, _, _, rfl⟩
  · exact ⟨_, _, _, _, _, _, rfl⟩
theorem name_le {s : ByteArray} (h : nameB s = true) : s.size ≤ 20 := by
  unfold nameB at h
  simp at h
  exact h.2.1

set_option maxRecDepth 100000 in
set_option maxHeartbeats 2000000 in
theorem impl_fault (k t f o : ByteArray) (n : Int) (b nm : ByteArray) (w : World) (hk : k.size ≤ 2000000) (ht : t.size ≤ 2000000) (hf : f.size ≤ 2000000) (ho : o.size ≤ 2000000) (hbz : b.size ≤ 2000000) (hnm : nm.size ≤ 2000000) (hm : MaxL w) :
    Calls Tryz.prog 101 #[.agg #[.string k, .string t, .string f, .string o, .int .i64 n, .string b], .string nm] w fun e w' => e = .returned (fltV k t f o n b nm) ∧ Below w.heap.size w w' := by
  have i1 := fun w => impl_name nm w (by unfold maxLen; omega)
  have i2 := fun w hm => impl_reply k t f o n b errS nm w hk ht hf ho hbz (by decide) hnm hm
  cases h1 : (t.toList == errS.toList)
  · cases h2 : nameB nm
    · rw [fltV_bad h2]
      rw [h2] at i1
      rw [err_list] at h1
      clear h2 i2 hm
      go_enter Tryz.func101, Tryz.ntmps101
      go_wp2_with (go_at_call 72; go_fit (i1 _); rintro e w1 ⟨rfl, rfl⟩)
      exact bodyPost_ret (v := stV ⟨#[]⟩ ⟨#[]⟩ ⟨#[]⟩ ⟨#[]⟩ 0 ⟨#[]⟩) (by simp [results, Tryz.results101, go_sem, stV]) rfl ⟨rfl, ((Below.refl _ _).alloc (Nat.le_refl _) _).alloc (by simp) _⟩
    · rw [fltV_rep h1 h2]
      rw [h2] at i1
      obtain ⟨x, y, z, u, m, v, hv⟩ := rep_form k t f o n b errS nm
      rw [hv] at i2 ⊢
      unfold stV at i2
      rw [err_list] at h1
      unfold errS at i2
      clear h2 hv
      have HM := Lib.hid (fun W (h : Below w.heap.size w W) => hm.below h hm.pos)
      clear hm
      go_enter Tryz.func101, Tryz.ntmps101
      go_wp2_with (first
        | (go_at_call 72; go_fit (i1 _); rintro e w1 ⟨rfl, rfl⟩)
        | (go_at_call 121; go_fit (i2 _ (HM.out _ (((Below.refl _ _).alloc (Nat.le_refl _) _).alloc (by simp) _))); rintro e w1 ⟨rfl, hb⟩; have hS := two_boxes hb; obtain ⟨⟨⟨p0, p1, p2, p3, p4, p5⟩, s0, s1, s2, s3, s4, s5⟩, ⟨f0, f1, f2, f3, f4, f5⟩, hz⟩ := cells_of_s hS; have HS := Lib.hid hS; clear hS))
      exact bodyPost_ret (v := stV x y z u m v) (by simp [results, Tryz.results101, go_sem, s0, s1, s2, s3, s4, s5, hz, stV]; try omega) rfl ⟨rfl, repS_ans HS.out _ _ _ _ _ _⟩
  · rw [fltV_yes h1]
    rw [err_list] at h1
    clear i1 i2 hm
    go_enter Tryz.func101, Tryz.ntmps101
    go_wp2
    exact bodyPost_ret (v := stV ⟨#[]⟩ ⟨#[]⟩ ⟨#[]⟩ ⟨#[]⟩ 0 ⟨#[]⟩) (by simp [results, Tryz.results101, go_sem, stV]) rfl ⟨rfl, ((Below.refl _ _).alloc (Nat.le_refl _) _).alloc (by simp) _⟩

set_option maxRecDepth 100000 in
set_option maxHeartbeats 2000000 in
theorem spec_fault (k t f o : ByteArray) (n : Int) (b nm : ByteArray) (w : World) (ht : t.size ≤ maxLen) (hf : f.size ≤ 2000000) (ho : o.size ≤ 2000000) (hbz : b.size ≤ maxLen) (hnm : nm.size ≤ maxLen) :
    Calls Tryz.prog 37 #[.agg #[.string k, .string t, .string f, .string o, .int .i64 n, .string b], .string nm] w fun e w' => e = .returned (fltV k t f o n b nm) ∧ Below w.heap.size w w' := by
  have i1 := fun w => spec_stright k t f o n b w ht hf ho hbz
  have i2 := fun w => spec_l04reply k t f o n b errS nm w (by unfold maxLen; decide) hf ho hnm
  have i3 := fun w => spec_name nm w hnm
  unfold maxLen at hnm
  by_cases g1 : 20000 < nm.size
  · rw [fltV_bad (by cases h : nameB nm; · rfl
                     · have := name_le h; omega)]
    clear i1 i2 i3
    go_enter Tryz.func37, Tryz.ntmps37
    go_wp2
    exact bodyPost_ret (v := stV ⟨#[]⟩ ⟨#[]⟩ ⟨#[]⟩ ⟨#[]⟩ 0 ⟨#[]⟩) (by simp [results, Tryz.results37, go_sem, stV]) rfl ⟨rfl, ((Below.refl _ _).alloc (Nat.le_refl _) _).alloc (by simp) _⟩
  cases hx : stB k t f o n b
  · have hz : fltV k t f o n b nm = stV ⟨#[]⟩ ⟨#[]⟩ ⟨#[]⟩ ⟨#[]⟩ 0 ⟨#[]⟩ := by
      unfold fltV
      rw [repV_no hx]
      split <;> rfl
    rw [hz]
    rw [hx] at i1
    clear hx hz i2 i3
    go_enter Tryz.func37, Tryz.ntmps37
    go_wp2_with (go_at_call 41; go_fit (i1 _); rintro e w1 ⟨rfl, hb⟩; have hS := two_boxes hb; obtain ⟨⟨⟨p0, p1, p2, p3, p4, p5⟩, s0, s1, s2, s3, s4, s5⟩, ⟨f0, f1, f2, f3, f4, f5⟩, hz⟩ := cells_of_s hS; have HS := Lib.hid hS; clear hS)
    exact bodyPost_ret (v := stV ⟨#[]⟩ ⟨#[]⟩ ⟨#[]⟩ ⟨#[]⟩ 0 ⟨#[]⟩) (by simp [results, Tryz.results37, go_sem, s0, s1, s2, s3, s4, s5, hz, stV]; try omega) rfl ⟨rfl, repS_ans HS.out _ _ _ _ _ _⟩
  rw [hx] at i1
  cases h1 : (t.toList == errS.toList)
  · cases h2 : nameB nm
    · rw [fltV_bad h2]
      rw [h2] at i3
      rw [err_list] at h1
      clear h2 i2 hx
      go_enter Tryz.func37, Tryz.ntmps37
      go_wp2_with (first
        | (go_at_call 41; go_fit (i1 _); rintro e w1 ⟨rfl, hb⟩; have hS := two_boxes hb; obtain ⟨⟨⟨p0, p1, p2, p3, p4, p5⟩, s0, s1, s2, s3, s4, s5⟩, ⟨f0, f1, f2, f3, f4, f5⟩, hz⟩ := cells_of_s hS; have HS := Lib.hid hS; clear hS)
        | (go_at_call 66; go_fit (i3 _); rintro e w2 ⟨rfl, rfl⟩))
      exact bodyPost_ret (v := stV ⟨#[]⟩ ⟨#[]⟩ ⟨#[]⟩ ⟨#[]⟩ 0 ⟨#[]⟩) (by simp [results, Tryz.results37, go_sem, s0, s1, s2, s3, s4, s5, hz, stV]; try omega) rfl ⟨rfl, repS_ans HS.out _ _ _ _ _ _⟩
    · rw [fltV_rep h1 h2, repV_l4 hx]
      rw [h2] at i3
      obtain ⟨x, y, z, u, m, v, hv⟩ := l4_form k f o n errS nm
      rw [hv] at i2 ⊢
      unfold stV at i2
      rw [err_list] at h1
      unfold errS at i2
      clear h2 hv hx
      go_enter Tryz.func37, Tryz.ntmps37
      go_wp2_with (first
        | (go_at_call 41; go_fit (i1 _); rintro e w1 ⟨rfl, hb⟩; have hS := two_boxes hb; obtain ⟨⟨⟨p0, p1, p2, p3, p4, p5⟩, s0, s1, s2, s3, s4, s5⟩, ⟨f0, f1, f2, f3, f4, f5⟩, hz⟩ := cells_of_s hS; have HS := Lib.hid hS; clear hS)
        | (go_at_call 66; go_fit (i3 _); rintro e w2 ⟨rfl, rfl⟩)
        | (go_at_call 67; go_fit (i2 _); rintro e w2 ⟨rfl, hb2⟩; have hS := repS_on HS.out hb2; obtain ⟨⟨⟨p0, p1, p2, p3, p4, p5⟩, s0, s1, s2, s3, s4, s5⟩, ⟨f0, f1, f2, f3, f4, f5⟩, hz⟩ := cells_of_s hS; have HS := Lib.hid hS; clear hS))
      exact bodyPost_ret (v := stV x y z u m v) (by simp [results, Tryz.results37, go_sem, s0, s1, s2, s3, s4, s5, hz, stV]; try omega) rfl ⟨rfl, repS_ans HS.out _ _ _ _ _ _⟩
  · rw [fltV_yes h1]
    rw [err_list] at h1
    clear i2 i3 hx
    go_enter Tryz.func37, Tryz.ntmps37
    go_wp2_with (go_at_call 41; go_fit (i1 _); rintro e w1 ⟨rfl, hb⟩; have hS := two_boxes hb; obtain ⟨⟨⟨p0, p1, p2, p3, p4, p5⟩, s0, s1, s2, s3, s4, s5⟩, ⟨f0, f1, f2, f3, f4, f5⟩, hz⟩ := cells_of_s hS; have HS := Lib.hid hS; clear hS)
    exact bodyPost_ret (v := stV ⟨#[]⟩ ⟨#[]⟩ ⟨#[]⟩ ⟨#[]⟩ 0 ⟨#[]⟩) (by simp [results, Tryz.results37, go_sem, s0, s1, s2, s3, s4, s5, hz, stV]; try omega) rfl ⟨rfl, repS_ans HS.out _ _ _ _ _ _⟩
end Go.Proofs.YtafdjjdmcnlddaaGreat
