/- Several parts in one text: StReplyI, StReplyS, StFault, StDraws. -/
import Derived.Test.YtpjmcpfmnlfmdaaGreatQBase
import Derived.Test.YtpjmcpfmnlfmdaaGreatQStA
import Derived.Test.YtpjmcpfmnlfmdaaGreatQStB
namespace Go.Proofs.YtpjmcpfmnlfmdaaGreat
set_option linter.unusedSimpArgs false
set_option linter.unusedVariables false
open Go.RowKit

/-- A slice of one string. -/
def OneStr (W : World) (v : Value) (s : ByteArray) : Prop := ∃ g, v = .slice (some ⟨g, 0, none⟩) 1 1 ∧ W.cell? ⟨g, 0, none⟩ = some (.string s)
theorem OneStr.on {W W' : World} {v : Value} {s : ByteArray} (h : OneStr W v s) (hb : Below W.heap.size W W') : OneStr W' v s := by
  obtain ⟨g, rfl, hc⟩ := h
  exact ⟨g, rfl, (hb.cell (p := ⟨g, 0, none⟩) (lt_of_cellJ hc)).trans hc⟩
theorem oneStr_new (W : World) (s : ByteArray) (t : Nat) : OneStr (W.alloc (.cells #[.string s] t)) (.slice (some ⟨W.heap.size, 0, none⟩) 1 1) s := ⟨_, rfl, one_at W s t⟩
theorem OneStr.joined {W : World} {v : Value} {s : ByteArray} (h : OneStr W v s) (hs : s.size ≤ 2000000) : Calls Tryz.prog 88 #[v] W fun e w' => e = .returned (.string s) ∧ Below W.heap.size W w' := by
  obtain ⟨g, rfl, hc⟩ := h
  exact joined_at g s W hs hc
/-- A new stanza, empty. -/
def ResAt (B : Nat) (W : World) (v : Value) : Prop := ∃ g, v = .pointer (some ⟨g, 0, none⟩) ∧ B ≤ g ∧ Arr W g 35 [.string ⟨#[]⟩, .string ⟨#[]⟩, .string ⟨#[]⟩, .string ⟨#[]⟩, .int .i64 0, .string ⟨#[]⟩]
theorem ResAt.on {B : Nat} {W W' : World} {v : Value} (h : ResAt B W v) (hb : Below W.heap.size W W') : ResAt B W' v := by
  obtain ⟨g, rfl, hB, hA⟩ := h
  exact ⟨g, rfl, hB, arr_below hA hb⟩
theorem resAt_new (B : Nat) (W : World) (h : B ≤ W.heap.size) : ResAt B (W.alloc (.cells #[.string ⟨#[]⟩, .string ⟨#[]⟩, .string ⟨#[]⟩, .string ⟨#[]⟩, .int .i64 0, .string ⟨#[]⟩] 35)) (.pointer (some ⟨W.heap.size, 0, none⟩)) := ⟨_, rfl, h, Arr.fresh W _ _⟩
theorem arr_six0 {w : World} {g t : Nat} {a b c d e f : Value} (h : Arr w g t [a, b, c, d, e, f]) : (w.cell? ⟨g, 0, none⟩ = some a ∧ w.cell? ⟨g, 1, none⟩ = some b ∧ w.cell? ⟨g, 2, none⟩ = some c ∧ w.cell? ⟨g, 3, none⟩ = some d ∧ w.cell? ⟨g, 4, none⟩ = some e ∧ w.cell? ⟨g, 5, none⟩ = some f) ∧
    w.frozen? ⟨g, 0, none⟩ = false ∧ w.frozen? ⟨g, 1, none⟩ = false ∧ w.frozen? ⟨g, 2, none⟩ = false ∧ w.frozen? ⟨g, 3, none⟩ = false ∧ w.frozen? ⟨g, 4, none⟩ = false ∧ w.frozen? ⟨g, 5, none⟩ = false :=
  ⟨⟨h.cell 0, h.cell 1, h.cell 2, h.cell 3, h.cell 4, h.cell 5⟩, h.free 0, h.free 1, h.free 2, h.free 3, h.free 4, h.free 5⟩
def put6 (w : World) (g : Nat) (a b c d e f : Value) : World := (((((w.setCell ⟨g, 0, none⟩ a).setCell ⟨g, 1, none⟩ b).setCell ⟨g, 2, none⟩ c).setCell ⟨g, 3, none⟩ d).setCell ⟨g, 4, none⟩ e).setCell ⟨g, 5, none⟩ f
theorem arr_put6 {w : World} {g t : Nat} {x0 x1 x2 x3 x4 x5 : Value} (h : Arr w g t [x0, x1, x2, x3, x4, x5]) (a b c d e f : Value) : Arr (put6 w g a b c d e f) g t [a, b, c, d, e, f] :=
  (((((h.put 0 a).put 1 b).put 2 c).put 3 d).put 4 e).put 5 f
theorem arr_far6 {w : World} {g g' t : Nat} {cs : List Value} (h : Arr w g t cs) (hne : g ≠ g') (a b c d e f : Value) : Arr (put6 w g' a b c d e f) g t cs := by
  have s : ∀ (w : World) (i : Nat) (u : Value), Arr w g t cs → Arr (w.setCell ⟨g', i, none⟩ u) g t cs := fun w i u h => by
    unfold Arr at h ⊢
    rw [← h]
    exact Below.heap_setCell w ⟨g', i, none⟩ u g (by simpa using hne)
  exact s _ _ _ (s _ _ _ (s _ _ _ (s _ _ _ (s _ _ _ (s _ _ _ h)))))
theorem below_put6 {B g : Nat} {w w1 : World} (h : Below B w w1) (hg : B ≤ g) (a b c d e f : Value) : Below B w (put6 w1 g a b c d e f) :=
  (((((h.setCell (p := ⟨g, 0, none⟩) hg a).setCell (p := ⟨g, 1, none⟩) hg b).setCell (p := ⟨g, 2, none⟩) hg c).setCell (p := ⟨g, 3, none⟩) hg d).setCell (p := ⟨g, 4, none⟩) hg e).setCell (p := ⟨g, 5, none⟩) hg f
/-- What stands all along: the box of the argument, the box of the answer. -/
def RepS (w : World) (k t f o : ByteArray) (n : Int) (b : ByteArray) (W : World) : Prop :=
  (W.cell? ⟨w.heap.size, 0, none⟩ = some (.string k) ∧ W.cell? ⟨w.heap.size, 1, none⟩ = some (.string t) ∧ W.cell? ⟨w.heap.size, 2, none⟩ = some (.string f) ∧ W.cell? ⟨w.heap.size, 3, none⟩ = some (.string o) ∧ W.cell? ⟨w.heap.size, 4, none⟩ = some (.int .i64 n) ∧ W.cell? ⟨w.heap.size, 5, none⟩ = some (.string b)) ∧ (Below w.heap.size w W ∧ Arr W w.heap.size 35 [.string k, .string t, .string f, .string o, .int .i64 n, .string b] ∧ Arr W (w.heap.size + 1) 35 [.string ⟨#[]⟩, .string ⟨#[]⟩, .string ⟨#[]⟩, .string ⟨#[]⟩, .int .i64 0, .string ⟨#[]⟩] ∧ w.heap.size + 2 ≤ W.heap.size)
theorem repS {w : World} {k t f o : ByteArray} {n : Int} {b : ByteArray} {W : World} (hb : Below w.heap.size w W) (h1 : Arr W w.heap.size 35 [.string k, .string t, .string f, .string o, .int .i64 n, .string b]) (h2 : Arr W (w.heap.size + 1) 35 [.string ⟨#[]⟩, .string ⟨#[]⟩, .string ⟨#[]⟩, .string ⟨#[]⟩, .int .i64 0, .string ⟨#[]⟩]) (h3 : w.heap.size + 2 ≤ W.heap.size) : RepS w k t f o n b W :=
  ⟨(arr_six0 h1).1, hb, h1, h2, h3⟩
theorem repS_on {w : World} {k t f o : ByteArray} {n : Int} {b : ByteArray} {W W' : World} (h : RepS w k t f o n b W) (hb : Below W.heap.size W W') : RepS w k t f o n b W' :=
  repS (h.2.1.trans (hb.mono h.2.1.size)) (arr_below h.2.2.1 hb) (arr_below h.2.2.2.1 hb) (Nat.le_trans h.2.2.2.2 hb.size)
theorem repS_put {w : World} {k t f o : ByteArray} {n : Int} {b : ByteArray} {W : World} (h : RepS w k t f o n b W) {g : Nat} (hg : w.heap.size + 2 ≤ g) (x0 x1 x2 x3 x4 x5 : Value) : RepS w k t f o n b (put6 W g x0 x1 x2 x3 x4 x5) :=
  repS (below_put6 h.2.1 (by omega) _ _ _ _ _ _) (arr_far6 h.2.2.1 (by omega) _ _ _ _ _ _) (arr_far6 h.2.2.2.1 (by omega) _ _ _ _ _ _) (Nat.le_trans h.2.2.2.2 (below_put6 (Below.refl _ W) (Nat.zero_le g) x0 x1 x2 x3 x4 x5).size)
/-- What each operation of the answer's making has left. -/
structure RepA (w : World) (k kd o f : ByteArray) (n : Int) (bd : ByteArray) (b1 c1 b2 c2 b3 c3 b4 c4 b5 c5 bu al : Bool) (v10 v11 v13 v14 v17 v18 v21 v22 v26 v27 v28 v7 : Value) (W : World) : Prop where
  p1 : b1 = true → OneStr W v10 k
  q1 : c1 = true → v11 = .string k
  p2 : b2 = true → OneStr W v13 kd
  q2 : c2 = true → v14 = .string kd
  p3 : b3 = true → OneStr W v17 o
  q3 : c3 = true → v18 = .string o
  p4 : b4 = true → OneStr W v21 f
  q4 : c4 = true → v22 = .string f
  p5 : b5 = true → OneStr W v26 bd
  q5 : c5 = true → v27 = .string bd
  pu : bu = true → v28 = .agg #[.string k, .string kd, .string o, .string f, .int .i64 n, .string bd]
  pa : al = true → ResAt (w.heap.size + 2) W v7
theorem RepA.on {w : World} {k kd o f : ByteArray} {n : Int} {bd : ByteArray} {b1 c1 b2 c2 b3 c3 b4 c4 b5 c5 bu al : Bool} {v10 v11 v13 v14 v17 v18 v21 v22 v26 v27 v28 v7 : Value} {W W' : World} (h : RepA w k kd o f n bd b1 c1 b2 c2 b3 c3 b4 c4 b5 c5 bu al v10 v11 v13 v14 v17 v18 v21 v22 v26 v27 v28 v7 W) (hb : Below W.heap.size W W') : RepA w k kd o f n bd b1 c1 b2 c2 b3 c3 b4 c4 b5 c5 bu al v10 v11 v13 v14 v17 v18 v21 v22 v26 v27 v28 v7 W' :=
  { h with
    p1 := fun e => (h.p1 e).on hb
    p2 := fun e => (h.p2 e).on hb
    p3 := fun e => (h.p3 e).on hb
    p4 := fun e => (h.p4 e).on hb
    p5 := fun e => (h.p5 e).on hb
    pa := fun e => (h.pa e).on hb }
/-- The invariant of the region that makes the answer. -/
def RepInv (w : World) (k t f o : ByteArray) (n : Int) (b kd bd : ByteArray) (listed : Array Bool) (a : Act) (W : World) : Prop :=
  ∃ (b1 c1 b2 c2 b3 c3 b4 c4 b5 c5 bu al st : Bool) (v10 v11 v13 v14 v17 v18 v21 v22 v26 v27 v28 v7 : Value), listed = #[true, true, b1, c1, true, b2, c2, true, true, b3, c3, true, true, b4, c4, true, true, true, b5, c5, bu, al, st] ∧
    a = { tmps := #[.agg #[.string k, .string t, .string f, .string o, .int .i64 n, .string b], .string kd, .string bd, .pointer (some ⟨w.heap.size, 0, none⟩), undef, undef, .pointer (some ⟨w.heap.size + 1, 0, none⟩), v7, .pointer (some ⟨w.heap.size, 0, none⟩), .string k, v10, v11, .string kd, v13, v14, .pointer (some ⟨w.heap.size, 3, none⟩), .string o, v17, v18, .pointer (some ⟨w.heap.size, 2, none⟩), .string f, v21, v22, .pointer (some ⟨w.heap.size, 4, none⟩), .int .i64 n, .string bd, v26, v27, v28, undef, undef, undef, undef, undef, undef, undef, undef, undef, undef], defers := [] } ∧ RepS w k t f o n b W ∧ (st = false → RepA w k kd o f n bd b1 c1 b2 c2 b3 c3 b4 c4 b5 c5 bu al v10 v11 v13 v14 v17 v18 v21 v22 v26 v27 v28 v7 W) ∧
    (st = true → b1 = true ∧ c1 = true ∧ b2 = true ∧ c2 = true ∧ b3 = true ∧ c3 = true ∧ b4 = true ∧ c4 = true ∧ b5 = true ∧ c5 = true ∧ bu = true ∧ al = true) ∧ (st = true → ∃ g, v7 = .pointer (some ⟨g, 0, none⟩) ∧ w.heap.size + 2 ≤ g ∧ Arr W g 35 [.string k, .string kd, .string o, .string f, .int .i64 n, .string bd])

noncomputable def repV (k t f o : ByteArray) (n : Int) (b kd bd : ByteArray) : Value :=
  if (stB k t f o n b && stB k kd o f n bd) = true then stV k kd o f n bd else stV ⟨#[]⟩ ⟨#[]⟩ ⟨#[]⟩ ⟨#[]⟩ 0 ⟨#[]⟩
set_option maxRecDepth 100000 in
set_option maxHeartbeats 4000000 in
theorem impl_reply (k t f o : ByteArray) (n : Int) (b kd bd : ByteArray) (w : World) (hk : k.size ≤ 2000000) (ht : t.size ≤ 2000000) (hf : f.size ≤ 2000000) (ho : o.size ≤ 2000000) (hbz : b.size ≤ 2000000) (hkd : kd.size ≤ 2000000) (hbd : bd.size ≤ 2000000) (hm : MaxL w) :
    Calls Tryz.prog 111 #[.agg #[.string k, .string t, .string f, .string o, .int .i64 n, .string b], .string kd, .string bd] w fun e w' => e = .returned (repV k t f o n b kd bd) ∧ Below w.heap.size w w' := by
  have i1 := fun w hm => impl_stright k t f o n b w (by unfold maxLen; omega) (by unfold maxLen; omega) (by unfold maxLen; omega) (by unfold maxLen; omega) hm
  have i2 := fun w hm => impl_stright k kd o f n bd w (by unfold maxLen; omega) (by unfold maxLen; omega) (by unfold maxLen; omega) (by unfold maxLen; omega) hm
  unfold repV
  obtain ⟨x1, h1⟩ : ∃ v, stB k t f o n b = v := ⟨_, rfl⟩
  obtain ⟨x2, h2⟩ : ∃ v, stB k kd o f n bd = v := ⟨_, rfl⟩
  rw [h1] at i1
  rw [h2] at i2
  rw [h1, h2]
  clear h1 h2
  have HM := Lib.hid (fun W (h : Below w.heap.size w W) => hm.below h hm.pos)
  clear hm
  have I1 := Lib.hid i1
  have I2 := Lib.hid i2
  clear i1 i2
  go_enter Tryz.func111, Tryz.ntmps111
  go_wp2
  have hS0 : RepS w k t f o n b ((w.alloc (.cells #[.string k, .string t, .string f, .string o, .int .i64 n, .string b] 35)).alloc (.cells #[.string ⟨#[]⟩, .string ⟨#[]⟩, .string ⟨#[]⟩, .string ⟨#[]⟩, .int .i64 0, .string ⟨#[]⟩] 35)).drew :=
    repS (((Below.refl w.heap.size w).alloc (Nat.le_refl _) _).alloc (by simp) _).drew (arr_alloc (Arr.fresh w _ _) _) (by have := Arr.fresh (w.alloc (.cells #[.string k, .string t, .string f, .string o, .int .i64 n, .string b] 35)) 35 [.string ⟨#[]⟩, .string ⟨#[]⟩, .string ⟨#[]⟩, .string ⟨#[]⟩, .int .i64 0, .string ⟨#[]⟩]; rw [World.size_alloc] at this; exact this) (by simp [size_drew])
  refine wp_region_held_drew (S := (fun W => RepS w k t f o n b W)) (by kernel_rfl) hS0 (fun hHeld => ?_)
  clear hS0
  generalize ((w.alloc (.cells #[.string k, .string t, .string f, .string o, .int .i64 n, .string b] 35)).alloc (.cells #[.string ⟨#[]⟩, .string ⟨#[]⟩, .string ⟨#[]⟩, .string ⟨#[]⟩, .int .i64 0, .string ⟨#[]⟩] 35)).drew = V at hHeld ⊢
  refine takeH (i := 0) (k := 8) (v := .pointer (some ⟨w.heap.size, 0, none⟩)) rfl (by rfl) (by kernel_rfl) (by kernel_rfl) (by kernel_rfl) (fun _ _ _ h => h) (by rfl) ?_ hHeld ?_
  · intro w1 hSw; obtain ⟨⟨p0, p1, p2, p3, p4, p5⟩, _⟩ := hSw; go_simp
  (try simp only [Act.put, List.setIfInBounds_toArray, List.set_cons_zero, List.set_cons_succ])
  refine takeH (i := 1) (k := 9) (v := .string k) rfl (by rfl) (by kernel_rfl) (by kernel_rfl) (by kernel_rfl) (fun _ _ _ h => h) (by rfl) ?_ hHeld ?_
  · intro w1 hSw; obtain ⟨⟨p0, p1, p2, p3, p4, p5⟩, _⟩ := hSw; go_simp
  (try simp only [Act.put, List.setIfInBounds_toArray, List.set_cons_zero, List.set_cons_succ])
  refine takeH (i := 4) (k := 12) (v := .string kd) rfl (by rfl) (by kernel_rfl) (by kernel_rfl) (by kernel_rfl) (fun _ _ _ h => h) (by rfl) ?_ hHeld ?_
  · intro w1 hSw; obtain ⟨⟨p0, p1, p2, p3, p4, p5⟩, _⟩ := hSw; go_simp
  (try simp only [Act.put, List.setIfInBounds_toArray, List.set_cons_zero, List.set_cons_succ])
  refine takeH (i := 7) (k := 15) (v := .pointer (some ⟨w.heap.size, 3, none⟩)) rfl (by rfl) (by kernel_rfl) (by kernel_rfl) (by kernel_rfl) (fun _ _ _ h => h) (by rfl) ?_ hHeld ?_
  · intro w1 hSw; obtain ⟨⟨p0, p1, p2, p3, p4, p5⟩, _⟩ := hSw; go_simp
  (try simp only [Act.put, List.setIfInBounds_toArray, List.set_cons_zero, List.set_cons_succ])
  refine takeH (i := 8) (k := 16) (v := .string o) rfl (by rfl) (by kernel_rfl) (by kernel_rfl) (by kernel_rfl) (fun _ _ _ h => h) (by rfl) ?_ hHeld ?_
  · intro w1 hSw; obtain ⟨⟨p0, p1, p2, p3, p4, p5⟩, _⟩ := hSw; go_simp
  (try simp only [Act.put, List.setIfInBounds_toArray, List.set_cons_zero, List.set_cons_succ])
  refine takeH (i := 11) (k := 19) (v := .pointer (some ⟨w.heap.size, 2, none⟩)) rfl (by rfl) (by kernel_rfl) (by kernel_rfl) (by kernel_rfl) (fun _ _ _ h => h) (by rfl) ?_ hHeld ?_
  · intro w1 hSw; obtain ⟨⟨p0, p1, p2, p3, p4, p5⟩, _⟩ := hSw; go_simp
  (try simp only [Act.put, List.setIfInBounds_toArray, List.set_cons_zero, List.set_cons_succ])
  refine takeH (i := 12) (k := 20) (v := .string f) rfl (by rfl) (by kernel_rfl) (by kernel_rfl) (by kernel_rfl) (fun _ _ _ h => h) (by rfl) ?_ hHeld ?_
  · intro w1 hSw; obtain ⟨⟨p0, p1, p2, p3, p4, p5⟩, _⟩ := hSw; go_simp
  (try simp only [Act.put, List.setIfInBounds_toArray, List.set_cons_zero, List.set_cons_succ])
  refine takeH (i := 15) (k := 23) (v := .pointer (some ⟨w.heap.size, 4, none⟩)) rfl (by rfl) (by kernel_rfl) (by kernel_rfl) (by kernel_rfl) (fun _ _ _ h => h) (by rfl) ?_ hHeld ?_
  · intro w1 hSw; obtain ⟨⟨p0, p1, p2, p3, p4, p5⟩, _⟩ := hSw; go_simp
  (try simp only [Act.put, List.setIfInBounds_toArray, List.set_cons_zero, List.set_cons_succ])
  refine takeH (i := 16) (k := 24) (v := .int .i64 n) rfl (by rfl) (by kernel_rfl) (by kernel_rfl) (by kernel_rfl) (fun _ _ _ h => h) (by rfl) ?_ hHeld ?_
  · intro w1 hSw; obtain ⟨⟨p0, p1, p2, p3, p4, p5⟩, _⟩ := hSw; go_simp
  (try simp only [Act.put, List.setIfInBounds_toArray, List.set_cons_zero, List.set_cons_succ])
  refine takeH (i := 17) (k := 25) (v := .string bd) rfl (by rfl) (by kernel_rfl) (by kernel_rfl) (by kernel_rfl) (fun _ _ _ h => h) (by rfl) ?_ hHeld ?_
  · intro w1 hSw; obtain ⟨⟨p0, p1, p2, p3, p4, p5⟩, _⟩ := hSw; go_simp
  (try simp only [Act.put, List.setIfInBounds_toArray, List.set_cons_zero, List.set_cons_succ])
  refine any_order (RepInv w k t f o n b kd bd) ?step ?done _ _ _ _ (of_decide_eq_true (by kernel_rfl)) ?start
  case start => exact ⟨false, false, false, false, false, false, false, false, false, false, false, false, false, _, _, _, _, _, _, _, _, _, _, _, _, rfl, rfl, hHeld, fun _ => by constructor <;> (intro h; cases h), fun h => (by cases h), fun h => by cases h⟩
  case step =>
    rintro listed a W i ⟨b1, c1, b2, c2, b3, c3, b4, c4, b5, c5, bu, al, st, v10, v11, v13, v14, v17, v18, v21, v22, v26, v27, v28, v7, rfl, rfl, hS, hA, hT, hE⟩ hi
    obtain ⟨hlt, hun, hdep⟩ := ready_spec hi
    clear hi
    have hlt' : i < 23 := hlt
    clear hlt
    have h23 : i = 0 ∨ i = 1 ∨ i = 2 ∨ i = 3 ∨ i = 4 ∨ i = 5 ∨ i = 6 ∨ i = 7 ∨ i = 8 ∨ i = 9 ∨ i = 10 ∨ i = 11 ∨ i = 12 ∨ i = 13 ∨ i = 14 ∨ i = 15 ∨ i = 16 ∨ i = 17 ∨ i = 18 ∨ i = 19 ∨ i = 20 ∨ i = 21 ∨ i = 22 := by omega
    rcases h23 with rfl | rfl | rfl | rfl | rfl | rfl | rfl | rfl | rfl | rfl | rfl | rfl | rfl | rfl | rfl | rfl | rfl | rfl | rfl | rfl | rfl | rfl | rfl
    · cases (show true = false from hun)
    · cases (show true = false from hun)
    · have hun2 : b1 = false := hun
      subst hun2
      obtain rfl : st = false := by
        cases st
        · rfl
        · have := hT rfl; simp at this
      have hA := hA rfl
      clear hdep hun hE hT
      refine wpOp_step rfl (fun K hK => ?_)
      rw [if_pos (by rfl)]
      go_simp
      have hb : Below W.heap.size W (W.alloc (.cells #[.string k] 9)) := (Below.refl _ W).alloc (Nat.le_refl _) _
      exact hK _ _ ⟨repS_on hS hb, true, c1, b2, c2, b3, c3, b4, c4, b5, c5, bu, al, false, _, v11, v13, v14, v17, v18, v21, v22, v26, v27, v28, v7, rfl, rfl, repS_on hS hb, fun _ => { hA.on hb with p1 := fun _ => oneStr_new W k _ }, fun e => (by cases e), fun e => by cases e⟩
    · have hun2 : c1 = false := hun
      subst hun2
      obtain rfl : st = false := by
        cases st
        · rfl
        · have := hT rfl; simp at this
      have hA := hA rfl
      obtain rfl : b1 = true := by cases b1 with | false => exact absurd hdep (by simp [Region.binds]) | true => rfl
      have hj := (hA.p1 rfl).joined (by omega)
      clear hdep hun hE hT
      refine wpOp_step rfl (fun K hK => ?_)
      rw [if_pos (by rfl)]
      go_simp
      go_fit hj
      rintro e w1 ⟨rfl, hb⟩
      clear hj
      exact hK _ _ ⟨repS_on hS hb, true, true, b2, c2, b3, c3, b4, c4, b5, c5, bu, al, false, v10, _, v13, v14, v17, v18, v21, v22, v26, v27, v28, v7, rfl, rfl, repS_on hS hb, fun _ => { hA.on hb with q1 := fun _ => rfl }, fun e => (by cases e), fun e => by cases e⟩
    · cases (show true = false from hun)
    · have hun2 : b2 = false := hun
      subst hun2
      obtain rfl : st = false := by
        cases st
        · rfl
        · have := hT rfl; simp at this
      have hA := hA rfl
      clear hdep hun hE hT
      refine wpOp_step rfl (fun K hK => ?_)
      rw [if_pos (by rfl)]
      go_simp
      have hb : Below W.heap.size W (W.alloc (.cells #[.string kd] 9)) := (Below.refl _ W).alloc (Nat.le_refl _) _
      exact hK _ _ ⟨repS_on hS hb, b1, c1, true, c2, b3, c3, b4, c4, b5, c5, bu, al, false, v10, v11, _, v14, v17, v18, v21, v22, v26, v27, v28, v7, rfl, rfl, repS_on hS hb, fun _ => { hA.on hb with p2 := fun _ => oneStr_new W kd _ }, fun e => (by cases e), fun e => by cases e⟩
    · have hun2 : c2 = false := hun
      subst hun2
      obtain rfl : st = false := by
        cases st
        · rfl
        · have := hT rfl; simp at this
      have hA := hA rfl
      obtain rfl : b2 = true := by cases b2 with | false => exact absurd hdep (by simp [Region.binds]) | true => rfl
      have hj := (hA.p2 rfl).joined (by omega)
      clear hdep hun hE hT
      refine wpOp_step rfl (fun K hK => ?_)
      rw [if_pos (by rfl)]
      go_simp
      go_fit hj
      rintro e w1 ⟨rfl, hb⟩
      clear hj
      exact hK _ _ ⟨repS_on hS hb, b1, c1, true, true, b3, c3, b4, c4, b5, c5, bu, al, false, v10, v11, v13, _, v17, v18, v21, v22, v26, v27, v28, v7, rfl, rfl, repS_on hS hb, fun _ => { hA.on hb with q2 := fun _ => rfl }, fun e => (by cases e), fun e => by cases e⟩
    · cases (show true = false from hun)
    · cases (show true = false from hun)
    · have hun2 : b3 = false := hun
      subst hun2
      obtain rfl : st = false := by
        cases st
        · rfl
        · have := hT rfl; simp at this
      have hA := hA rfl
      clear hdep hun hE hT
      refine wpOp_step rfl (fun K hK => ?_)
      rw [if_pos (by rfl)]
      go_simp
      have hb : Below W.heap.size W (W.alloc (.cells #[.string o] 9)) := (Below.refl _ W).alloc (Nat.le_refl _) _
      exact hK _ _ ⟨repS_on hS hb, b1, c1, b2, c2, true, c3, b4, c4, b5, c5, bu, al, false, v10, v11, v13, v14, _, v18, v21, v22, v26, v27, v28, v7, rfl, rfl, repS_on hS hb, fun _ => { hA.on hb with p3 := fun _ => oneStr_new W o _ }, fun e => (by cases e), fun e => by cases e⟩
    · have hun2 : c3 = false := hun
      subst hun2
      obtain rfl : st = false := by
        cases st
        · rfl
        · have := hT rfl; simp at this
      have hA := hA rfl
      obtain rfl : b3 = true := by cases b3 with | false => exact absurd hdep (by simp [Region.binds]) | true => rfl
      have hj := (hA.p3 rfl).joined (by omega)
      clear hdep hun hE hT
      refine wpOp_step rfl (fun K hK => ?_)
      rw [if_pos (by rfl)]
      go_simp
      go_fit hj
      rintro e w1 ⟨rfl, hb⟩
      clear hj
      exact hK _ _ ⟨repS_on hS hb, b1, c1, b2, c2, true, true, b4, c4, b5, c5, bu, al, false, v10, v11, v13, v14, v17, _, v21, v22, v26, v27, v28, v7, rfl, rfl, repS_on hS hb, fun _ => { hA.on hb with q3 := fun _ => rfl }, fun e => (by cases e), fun e => by cases e⟩
    · cases (show true = false from hun)
    · cases (show true = false from hun)
    · have hun2 : b4 = false := hun
      subst hun2
      obtain rfl : st = false := by
        cases st
        · rfl
        · have := hT rfl; simp at this
      have hA := hA rfl
      clear hdep hun hE hT
      refine wpOp_step rfl (fun K hK => ?_)
      rw [if_pos (by rfl)]
      go_simp
      have hb : Below W.heap.size W (W.alloc (.cells #[.string f] 9)) := (Below.refl _ W).alloc (Nat.le_refl _) _
      exact hK _ _ ⟨repS_on hS hb, b1, c1, b2, c2, b3, c3, true, c4, b5, c5, bu, al, false, v10, v11, v13, v14, v17, v18, _, v22, v26, v27, v28, v7, rfl, rfl, repS_on hS hb, fun _ => { hA.on hb with p4 := fun _ => oneStr_new W f _ }, fun e => (by cases e), fun e => by cases e⟩
    · have hun2 : c4 = false := hun
      subst hun2
      obtain rfl : st = false := by
        cases st
        · rfl
        · have := hT rfl; simp at this
      have hA := hA rfl
      obtain rfl : b4 = true := by cases b4 with | false => exact absurd hdep (by simp [Region.binds]) | true => rfl
      have hj := (hA.p4 rfl).joined (by omega)
      clear hdep hun hE hT
      refine wpOp_step rfl (fun K hK => ?_)
      rw [if_pos (by rfl)]
      go_simp
      go_fit hj
      rintro e w1 ⟨rfl, hb⟩
      clear hj
      exact hK _ _ ⟨repS_on hS hb, b1, c1, b2, c2, b3, c3, true, true, b5, c5, bu, al, false, v10, v11, v13, v14, v17, v18, v21, _, v26, v27, v28, v7, rfl, rfl, repS_on hS hb, fun _ => { hA.on hb with q4 := fun _ => rfl }, fun e => (by cases e), fun e => by cases e⟩
    · cases (show true = false from hun)
    · cases (show true = false from hun)
    · cases (show true = false from hun)
    · have hun2 : b5 = false := hun
      subst hun2
      obtain rfl : st = false := by
        cases st
        · rfl
        · have := hT rfl; simp at this
      have hA := hA rfl
      clear hdep hun hE hT
      refine wpOp_step rfl (fun K hK => ?_)
      rw [if_pos (by rfl)]
      go_simp
      have hb : Below W.heap.size W (W.alloc (.cells #[.string bd] 9)) := (Below.refl _ W).alloc (Nat.le_refl _) _
      exact hK _ _ ⟨repS_on hS hb, b1, c1, b2, c2, b3, c3, b4, c4, true, c5, bu, al, false, v10, v11, v13, v14, v17, v18, v21, v22, _, v27, v28, v7, rfl, rfl, repS_on hS hb, fun _ => { hA.on hb with p5 := fun _ => oneStr_new W bd _ }, fun e => (by cases e), fun e => by cases e⟩
    · have hun2 : c5 = false := hun
      subst hun2
      obtain rfl : st = false := by
        cases st
        · rfl
        · have := hT rfl; simp at this
      have hA := hA rfl
      obtain rfl : b5 = true := by cases b5 with | false => exact absurd hdep (by simp [Region.binds]) | true => rfl
      have hj := (hA.p5 rfl).joined (by omega)
      clear hdep hun hE hT
      refine wpOp_step rfl (fun K hK => ?_)
      rw [if_pos (by rfl)]
      go_simp
      go_fit hj
      rintro e w1 ⟨rfl, hb⟩
      clear hj
      exact hK _ _ ⟨repS_on hS hb, b1, c1, b2, c2, b3, c3, b4, c4, true, true, bu, al, false, v10, v11, v13, v14, v17, v18, v21, v22, v26, _, v28, v7, rfl, rfl, repS_on hS hb, fun _ => { hA.on hb with q5 := fun _ => rfl }, fun e => (by cases e), fun e => by cases e⟩
    · have hun2 : bu = false := hun
      subst hun2
      obtain rfl : st = false := by
        cases st
        · rfl
        · have := hT rfl; simp at this
      have hA := hA rfl
      obtain rfl : c1 = true := by cases c1 with | false => exact absurd hdep (by simp [Region.binds]) | true => rfl
      obtain rfl : c2 = true := by cases c2 with | false => exact absurd hdep (by simp [Region.binds]) | true => rfl
      obtain rfl : c3 = true := by cases c3 with | false => exact absurd hdep (by simp [Region.binds]) | true => rfl
      obtain rfl : c4 = true := by cases c4 with | false => exact absurd hdep (by simp [Region.binds]) | true => rfl
      obtain rfl : c5 = true := by cases c5 with | false => exact absurd hdep (by simp [Region.binds]) | true => rfl
      obtain rfl := hA.q1 rfl
      obtain rfl := hA.q2 rfl
      obtain rfl := hA.q3 rfl
      obtain rfl := hA.q4 rfl
      obtain rfl := hA.q5 rfl
      clear hdep hun hE hT
      refine wpOp_step rfl (fun K hK => ?_)
      rw [if_pos (by rfl)]
      go_simp
      exact hK _ _ ⟨hS, b1, true, b2, true, b3, true, b4, true, b5, true, true, al, false, v10, _, v13, _, v17, _, v21, _, v26, _, _, v7, rfl, rfl, hS, fun _ => { hA with pu := fun _ => rfl }, fun e => (by cases e), fun e => by cases e⟩
    · have hun2 : al = false := hun
      subst hun2
      obtain rfl : st = false := by
        cases st
        · rfl
        · have := hT rfl; simp at this
      have hA := hA rfl
      clear hdep hun hE hT
      refine wpOp_step rfl (fun K hK => ?_)
      rw [if_pos (by rfl)]
      go_simp
      have hb : Below W.heap.size W (W.alloc (.cells #[.string ⟨#[]⟩, .string ⟨#[]⟩, .string ⟨#[]⟩, .string ⟨#[]⟩, .int .i64 0, .string ⟨#[]⟩] 35)) := (Below.refl _ W).alloc (Nat.le_refl _) _
      exact hK _ _ ⟨repS_on hS hb, b1, c1, b2, c2, b3, c3, b4, c4, b5, c5, bu, true, false, v10, v11, v13, v14, v17, v18, v21, v22, v26, v27, v28, _, rfl, rfl, repS_on hS hb, fun _ => { hA.on hb with pa := fun _ => resAt_new _ W hS.2.2.2.2 }, fun e => (by cases e), fun e => by cases e⟩
    · have hun2 : st = false := hun
      subst hun2
      have hA := hA rfl
      obtain rfl : b1 = true := by cases b1 with | false => exact absurd hdep (by simp [Region.binds]) | true => rfl
      obtain rfl : c1 = true := by cases c1 with | false => exact absurd hdep (by simp [Region.binds]) | true => rfl
      obtain rfl : b2 = true := by cases b2 with | false => exact absurd hdep (by simp [Region.binds]) | true => rfl
      obtain rfl : c2 = true := by cases c2 with | false => exact absurd hdep (by simp [Region.binds]) | true => rfl
      obtain rfl : b3 = true := by cases b3 with | false => exact absurd hdep (by simp [Region.binds]) | true => rfl
      obtain rfl : c3 = true := by cases c3 with | false => exact absurd hdep (by simp [Region.binds]) | true => rfl
      obtain rfl : b4 = true := by cases b4 with | false => exact absurd hdep (by simp [Region.binds]) | true => rfl
      obtain rfl : c4 = true := by cases c4 with | false => exact absurd hdep (by simp [Region.binds]) | true => rfl
      obtain rfl : b5 = true := by cases b5 with | false => exact absurd hdep (by simp [Region.binds]) | true => rfl
      obtain rfl : c5 = true := by cases c5 with | false => exact absurd hdep (by simp [Region.binds]) | true => rfl
      obtain rfl : bu = true := by cases bu with | false => exact absurd hdep (by simp [Region.binds]) | true => rfl
      obtain rfl : al = true := by cases al with | false => exact absurd hdep (by simp [Region.binds]) | true => rfl
      obtain rfl := hA.pu rfl
      obtain ⟨g, rfl, hg, hG⟩ := hA.pa rfl
      obtain ⟨⟨c0, c1, c2, c3, c4, c5⟩, f0, f1, f2, f3, f4, f5⟩ := arr_six0 hG
      have HA := Lib.hid hA
      have HG := Lib.hid hG
      have HS := Lib.hid hS
      clear hA hG hS
      clear hdep hun hE hT
      refine wpOp_step rfl (fun K hK => ?_)
      rw [if_pos (by rfl)]
      go_simp
      exact hK _ _ ⟨repS_put HS.out hg _ _ _ _ _ _, true, true, true, true, true, true, true, true, true, true, true, true, true, v10, v11, v13, v14, v17, v18, v21, v22, v26, v27, _, _, rfl, rfl, repS_put HS.out hg _ _ _ _ _ _, fun e => (by cases e), fun _ => ⟨rfl, rfl, rfl, rfl, rfl, rfl, rfl, rfl, rfl, rfl, rfl, rfl⟩, fun _ => ⟨g, rfl, hg, arr_put6 HG.out _ _ _ _ _ _⟩⟩
  case done =>
    rintro listed a W ⟨b1, c1, b2, c2, b3, c3, b4, c4, b5, c5, bu, al, st, v10, v11, v13, v14, v17, v18, v21, v22, v26, v27, v28, v7, rfl, rfl, hS, hA, hT, hE⟩ hr
    obtain rfl : b1 = true := ready_nil hr 2 (show (2 : Nat) < 23 by decide) (by simp [Region.binds])
    obtain rfl : c1 = true := ready_nil hr 3 (show (3 : Nat) < 23 by decide) (by simp [Region.binds])
    obtain rfl : b2 = true := ready_nil hr 5 (show (5 : Nat) < 23 by decide) (by simp [Region.binds])
    obtain rfl : c2 = true := ready_nil hr 6 (show (6 : Nat) < 23 by decide) (by simp [Region.binds])
    obtain rfl : b3 = true := ready_nil hr 9 (show (9 : Nat) < 23 by decide) (by simp [Region.binds])
    obtain rfl : c3 = true := ready_nil hr 10 (show (10 : Nat) < 23 by decide) (by simp [Region.binds])
    obtain rfl : b4 = true := ready_nil hr 13 (show (13 : Nat) < 23 by decide) (by simp [Region.binds])
    obtain rfl : c4 = true := ready_nil hr 14 (show (14 : Nat) < 23 by decide) (by simp [Region.binds])
    obtain rfl : b5 = true := ready_nil hr 18 (show (18 : Nat) < 23 by decide) (by simp [Region.binds])
    obtain rfl : c5 = true := ready_nil hr 19 (show (19 : Nat) < 23 by decide) (by simp [Region.binds])
    obtain rfl : bu = true := ready_nil hr 20 (show (20 : Nat) < 23 by decide) (by simp [Region.binds])
    obtain rfl : al = true := ready_nil hr 21 (show (21 : Nat) < 23 by decide) (by simp [Region.binds])
    obtain rfl : st = true := ready_nil hr 22 (show (22 : Nat) < 23 by decide) (by simp [Region.binds])
    obtain ⟨g, rfl, hg, hG⟩ := hE rfl
    clear hA hT hE hr
    obtain ⟨_, hB, hBox, hRes, hz⟩ := hS
    dsimp only
    have hgl := arr_lt hG
    obtain ⟨⟨p0, p1, p2, p3, p4, p5⟩, _⟩ := arr_six0 hBox
    obtain ⟨⟨r0, r1, r2, r3, r4, r5⟩, _⟩ := arr_six0 hG
    obtain ⟨⟨s0, s1, s2, s3, s4, s5⟩, f0, f1, f2, f3, f4, f5⟩ := arr_six0 hRes
    cases x1
    · go_wp2_with (first
          | (go_at_call 54; go_fit (I1.out _ (HM.out _ hB)); rintro e w1 ⟨rfl, hb2⟩; replace hBox := arr_below hBox hb2; replace hG := arr_below hG hb2; replace hRes := arr_below hRes hb2; replace hB := hB.trans (hb2.mono hB.size); have hgl := arr_lt hG; have hz := arr_lt hRes; clear hb2; obtain ⟨⟨p0, p1, p2, p3, p4, p5⟩, _⟩ := arr_six0 hBox; obtain ⟨⟨r0, r1, r2, r3, r4, r5⟩, _⟩ := arr_six0 hG; obtain ⟨⟨s0, s1, s2, s3, s4, s5⟩, f0, f1, f2, f3, f4, f5⟩ := arr_six0 hRes)
          | (go_at_call 54; go_fit (I2.out _ (HM.out _ hB)); rintro e w1 ⟨rfl, hb2⟩; replace hBox := arr_below hBox hb2; replace hG := arr_below hG hb2; replace hRes := arr_below hRes hb2; replace hB := hB.trans (hb2.mono hB.size); have hgl := arr_lt hG; have hz := arr_lt hRes; clear hb2; obtain ⟨⟨p0, p1, p2, p3, p4, p5⟩, _⟩ := arr_six0 hBox; obtain ⟨⟨r0, r1, r2, r3, r4, r5⟩, _⟩ := arr_six0 hG; obtain ⟨⟨s0, s1, s2, s3, s4, s5⟩, f0, f1, f2, f3, f4, f5⟩ := arr_six0 hRes))
      exact bodyPost_ret (v := stV ⟨#[]⟩ ⟨#[]⟩ ⟨#[]⟩ ⟨#[]⟩ 0 ⟨#[]⟩) (by simp [results, Tryz.results111, go_sem, s0, s1, s2, s3, s4, s5, hz, stV]; try omega) rfl ⟨rfl, below_put6 hB (by omega) _ _ _ _ _ _⟩
    · cases x2
      · go_wp2_with (first
          | (go_at_call 54; go_fit (I1.out _ (HM.out _ hB)); rintro e w1 ⟨rfl, hb2⟩; replace hBox := arr_below hBox hb2; replace hG := arr_below hG hb2; replace hRes := arr_below hRes hb2; replace hB := hB.trans (hb2.mono hB.size); have hgl := arr_lt hG; have hz := arr_lt hRes; clear hb2; obtain ⟨⟨p0, p1, p2, p3, p4, p5⟩, _⟩ := arr_six0 hBox; obtain ⟨⟨r0, r1, r2, r3, r4, r5⟩, _⟩ := arr_six0 hG; obtain ⟨⟨s0, s1, s2, s3, s4, s5⟩, f0, f1, f2, f3, f4, f5⟩ := arr_six0 hRes)
          | (go_at_call 54; go_fit (I2.out _ (HM.out _ hB)); rintro e w1 ⟨rfl, hb2⟩; replace hBox := arr_below hBox hb2; replace hG := arr_below hG hb2; replace hRes := arr_below hRes hb2; replace hB := hB.trans (hb2.mono hB.size); have hgl := arr_lt hG; have hz := arr_lt hRes; clear hb2; obtain ⟨⟨p0, p1, p2, p3, p4, p5⟩, _⟩ := arr_six0 hBox; obtain ⟨⟨r0, r1, r2, r3, r4, r5⟩, _⟩ := arr_six0 hG; obtain ⟨⟨s0, s1, s2, s3, s4, s5⟩, f0, f1, f2, f3, f4, f5⟩ := arr_six0 hRes))
        exact bodyPost_ret (v := stV ⟨#[]⟩ ⟨#[]⟩ ⟨#[]⟩ ⟨#[]⟩ 0 ⟨#[]⟩) (by simp [results, Tryz.results111, go_sem, s0, s1, s2, s3, s4, s5, hz, stV]; try omega) rfl ⟨rfl, below_put6 hB (by omega) _ _ _ _ _ _⟩
      · go_wp2_with (first
          | (go_at_call 54; go_fit (I1.out _ (HM.out _ hB)); rintro e w1 ⟨rfl, hb2⟩; replace hBox := arr_below hBox hb2; replace hG := arr_below hG hb2; replace hRes := arr_below hRes hb2; replace hB := hB.trans (hb2.mono hB.size); have hgl := arr_lt hG; have hz := arr_lt hRes; clear hb2; obtain ⟨⟨p0, p1, p2, p3, p4, p5⟩, _⟩ := arr_six0 hBox; obtain ⟨⟨r0, r1, r2, r3, r4, r5⟩, _⟩ := arr_six0 hG; obtain ⟨⟨s0, s1, s2, s3, s4, s5⟩, f0, f1, f2, f3, f4, f5⟩ := arr_six0 hRes)
          | (go_at_call 54; go_fit (I2.out _ (HM.out _ hB)); rintro e w1 ⟨rfl, hb2⟩; replace hBox := arr_below hBox hb2; replace hG := arr_below hG hb2; replace hRes := arr_below hRes hb2; replace hB := hB.trans (hb2.mono hB.size); have hgl := arr_lt hG; have hz := arr_lt hRes; clear hb2; obtain ⟨⟨p0, p1, p2, p3, p4, p5⟩, _⟩ := arr_six0 hBox; obtain ⟨⟨r0, r1, r2, r3, r4, r5⟩, _⟩ := arr_six0 hG; obtain ⟨⟨s0, s1, s2, s3, s4, s5⟩, f0, f1, f2, f3, f4, f5⟩ := arr_six0 hRes))
        exact bodyPost_ret (v := stV k kd o f n bd) (by simp [results, Tryz.results111, go_sem, s0, s1, s2, s3, s4, s5, hz, stV]; try omega) rfl ⟨rfl, below_put6 hB (by omega) _ _ _ _ _ _⟩
end Go.Proofs.YtpjmcpfmnlfmdaaGreat

namespace Go.Proofs.YtpjmcpfmnlfmdaaGreat
set_option linter.unusedSimpArgs false
set_option linter.unusedVariables false
open Go.RowKit

/-- The two boxes that a function on a stanza lays: its argument's, its answer's. -/
theorem two_boxes {w w1 : World} {k t f o : ByteArray} {n : Int} {b : ByteArray} (h : Below ((w.alloc (.cells #[.string k, .string t, .string f, .string o, .int .i64 n, .string b] 35)).alloc (.cells #[.string ⟨#[]⟩, .string ⟨#[]⟩, .string ⟨#[]⟩, .string ⟨#[]⟩, .int .i64 0, .string ⟨#[]⟩] 35)).heap.size ((w.alloc (.cells #[.string k, .string t, .string f, .string o, .int .i64 n, .string b] 35)).alloc (.cells #[.string ⟨#[]⟩, .string ⟨#[]⟩, .string ⟨#[]⟩, .string ⟨#[]⟩, .int .i64 0, .string ⟨#[]⟩] 35)) w1) : RepS w k t f o n b w1 := by
  have h0 : RepS w k t f o n b ((w.alloc (.cells #[.string k, .string t, .string f, .string o, .int .i64 n, .string b] 35)).alloc (.cells #[.string ⟨#[]⟩, .string ⟨#[]⟩, .string ⟨#[]⟩, .string ⟨#[]⟩, .int .i64 0, .string ⟨#[]⟩] 35)) :=
    repS (((Below.refl w.heap.size w).alloc (Nat.le_refl _) _).alloc (by simp) _) (arr_alloc (Arr.fresh w _ _) _) (by have := Arr.fresh (w.alloc (.cells #[.string k, .string t, .string f, .string o, .int .i64 n, .string b] 35)) 35 [.string ⟨#[]⟩, .string ⟨#[]⟩, .string ⟨#[]⟩, .string ⟨#[]⟩, .int .i64 0, .string ⟨#[]⟩]; rw [World.size_alloc] at this; exact this) (by simp)
  exact repS_on h0 h
theorem third_box {w w1 : World} {o1 o2 : Obj} {cs : List Value} {t : Nat} (h : Below (((w.alloc o1).alloc o2).alloc (.cells cs.toArray t)).heap.size (((w.alloc o1).alloc o2).alloc (.cells cs.toArray t)) w1) : Arr w1 (w.heap.size + 2) t cs := by
  have := arr_below (Arr.fresh ((w.alloc o1).alloc o2) t cs) h
  rw [World.size_alloc, World.size_alloc] at this
  exact this
/-- What l04Reply answers. -/
noncomputable def l4V (k f o : ByteArray) (n : Int) (kd bd : ByteArray) : Value := if stB k kd o f n bd = true then stV k kd o f n bd else stV ⟨#[]⟩ ⟨#[]⟩ ⟨#[]⟩ ⟨#[]⟩ 0 ⟨#[]⟩
theorem cells_of_s {w : World} {k t f o : ByteArray} {n : Int} {b : ByteArray} {W : World} (h : RepS w k t f o n b W) :
    ((W.cell? ⟨w.heap.size, 0, none⟩ = some (.string k) ∧ W.cell? ⟨w.heap.size, 1, none⟩ = some (.string t) ∧ W.cell? ⟨w.heap.size, 2, none⟩ = some (.string f) ∧ W.cell? ⟨w.heap.size, 3, none⟩ = some (.string o) ∧ W.cell? ⟨w.heap.size, 4, none⟩ = some (.int .i64 n) ∧ W.cell? ⟨w.heap.size, 5, none⟩ = some (.string b)) ∧
     (W.cell? ⟨w.heap.size + 1, 0, none⟩ = some (.string ⟨#[]⟩) ∧ W.cell? ⟨w.heap.size + 1, 1, none⟩ = some (.string ⟨#[]⟩) ∧ W.cell? ⟨w.heap.size + 1, 2, none⟩ = some (.string ⟨#[]⟩) ∧ W.cell? ⟨w.heap.size + 1, 3, none⟩ = some (.string ⟨#[]⟩) ∧ W.cell? ⟨w.heap.size + 1, 4, none⟩ = some (.int .i64 0) ∧ W.cell? ⟨w.heap.size + 1, 5, none⟩ = some (.string ⟨#[]⟩))) ∧
    (W.frozen? ⟨w.heap.size + 1, 0, none⟩ = false ∧ W.frozen? ⟨w.heap.size + 1, 1, none⟩ = false ∧ W.frozen? ⟨w.heap.size + 1, 2, none⟩ = false ∧ W.frozen? ⟨w.heap.size + 1, 3, none⟩ = false ∧ W.frozen? ⟨w.heap.size + 1, 4, none⟩ = false ∧ W.frozen? ⟨w.heap.size + 1, 5, none⟩ = false) ∧ w.heap.size + 1 < W.heap.size :=
  ⟨⟨h.1, (arr_six0 h.2.2.2.1).1⟩, (arr_six0 h.2.2.2.1).2, by have := h.2.2.2.2; omega⟩
theorem repS_ans {w : World} {k t f o : ByteArray} {n : Int} {b : ByteArray} {W : World} (h : RepS w k t f o n b W) (x0 x1 x2 x3 x4 x5 : Value) : Below w.heap.size w (put6 W (w.heap.size + 1) x0 x1 x2 x3 x4 x5) :=
  below_put6 h.2.1 (by omega) _ _ _ _ _ _

set_option maxRecDepth 100000 in
set_option maxHeartbeats 2000000 in
theorem spec_l04reply (k t f o : ByteArray) (n : Int) (b kd bd : ByteArray) (w : World) (hkd : kd.size ≤ maxLen) (hf : f.size ≤ 2000000) (ho : o.size ≤ 2000000) (hbd : bd.size ≤ maxLen) :
    Calls Tryz.prog 50 #[.agg #[.string k, .string t, .string f, .string o, .int .i64 n, .string b], .string kd, .string bd] w fun e w' => e = .returned (l4V k f o n kd bd) ∧ Below w.heap.size w w' := by
  have i1 := fun w => spec_stright k kd o f n bd w hkd ho hf hbd
  unfold l4V
  obtain ⟨x, hx⟩ : ∃ v, stB k kd o f n bd = v := ⟨_, rfl⟩
  rw [hx] at i1 ⊢
  clear hx
  cases x
  · rw [if_neg Bool.false_ne_true]
    go_enter Tryz.func50, Tryz.ntmps50
    go_wp2_with (go_at_call 47; go_fit (i1 _); rintro e w1 ⟨rfl, hb⟩; have hS := two_boxes (below_one hb); obtain ⟨⟨⟨p0, p1, p2, p3, p4, p5⟩, s0, s1, s2, s3, s4, s5⟩, ⟨f0, f1, f2, f3, f4, f5⟩, hz⟩ := cells_of_s hS; have HS := Lib.hid hS; clear hS)
    exact bodyPost_ret (v := stV ⟨#[]⟩ ⟨#[]⟩ ⟨#[]⟩ ⟨#[]⟩ 0 ⟨#[]⟩) (by simp [results, Tryz.results50, go_sem, s0, s1, s2, s3, s4, s5, hz, stV]; try omega) rfl ⟨rfl, repS_ans HS.out _ _ _ _ _ _⟩
  · rw [if_pos rfl]
    go_enter Tryz.func50, Tryz.ntmps50
    go_wp2_with (go_at_call 47; go_fit (i1 _); rintro e w1 ⟨rfl, hb⟩; have hA : Arr w1 (w.heap.size + 2) 35 [.string k, .string kd, .string o, .string f, .int .i64 n, .string bd] := third_box hb; have hS := two_boxes (below_one hb); obtain ⟨⟨⟨p0, p1, p2, p3, p4, p5⟩, s0, s1, s2, s3, s4, s5⟩, ⟨f0, f1, f2, f3, f4, f5⟩, hz⟩ := cells_of_s hS; have HS := Lib.hid hS; clear hS; obtain ⟨⟨a0, a1, a2, a3, a4, a5⟩, _⟩ := arr_six0 hA; clear hA)
    exact bodyPost_ret (v := stV k kd o f n bd) (by simp [results, Tryz.results50, go_sem, s0, s1, s2, s3, s4, s5, hz, stV]; try omega) rfl ⟨rfl, repS_ans HS.out _ _ _ _ _ _⟩

theorem repV_no {k t f o : ByteArray} {n : Int} {b kd bd : ByteArray} (h : stB k t f o n b = false) : repV k t f o n b kd bd = stV ⟨#[]⟩ ⟨#[]⟩ ⟨#[]⟩ ⟨#[]⟩ 0 ⟨#[]⟩ := by unfold repV; rw [h]; rfl
theorem repV_l4 {k t f o : ByteArray} {n : Int} {b kd bd : ByteArray} (h : stB k t f o n b = true) : repV k t f o n b kd bd = l4V k f o n kd bd := by unfold repV l4V; rw [h, Bool.true_and]
theorem l4_form (k f o : ByteArray) (n : Int) (kd bd : ByteArray) : ∃ a b c d m e, l4V k f o n kd bd = stV a b c d m e := by
  unfold l4V
  split
  · exact ⟨_, _, _, _, _, _, rfl⟩
  · exact ⟨_, _, _, _, _, _, rfl⟩
end Go.Proofs.YtpjmcpfmnlfmdaaGreat

namespace Go.Proofs.YtpjmcpfmnlfmdaaGreat
set_option linter.unusedSimpArgs false
set_option linter.unusedVariables false
open Go.RowKit

def errS : ByteArray := ⟨#[101, 114, 114, 111, 114]⟩
theorem err_list : errS.toList = [101, 114, 114, 111, 114] := by rw [ByteArray.toList_eq]; rfl
/-- What Fault answers. -/
noncomputable def fltV (k t f o : ByteArray) (n : Int) (b nm : ByteArray) : Value :=
  if ((t.toList == errS.toList) || !nameB nm) = true then stV ⟨#[]⟩ ⟨#[]⟩ ⟨#[]⟩ ⟨#[]⟩ 0 ⟨#[]⟩ else repV k t f o n b errS nm
theorem fltV_yes {k t f o : ByteArray} {n : Int} {b nm : ByteArray} (h : (t.toList == errS.toList) = true) : fltV k t f o n b nm = stV ⟨#[]⟩ ⟨#[]⟩ ⟨#[]⟩ ⟨#[]⟩ 0 ⟨#[]⟩ := by unfold fltV; rw [h]; rfl
theorem fltV_bad {k t f o : ByteArray} {n : Int} {b nm : ByteArray} (h : nameB nm = false) : fltV k t f o n b nm = stV ⟨#[]⟩ ⟨#[]⟩ ⟨#[]⟩ ⟨#[]⟩ 0 ⟨#[]⟩ := by unfold fltV; rw [h, Bool.not_false, Bool.or_true]; rfl
theorem fltV_rep {k t f o : ByteArray} {n : Int} {b nm : ByteArray} (h1 : (t.toList == errS.toList) = false) (h2 : nameB nm = true) : fltV k t f o n b nm = repV k t f o n b errS nm := by unfold fltV; rw [h1, h2]; rfl
theorem rep_form (k t f o : ByteArray) (n : Int) (b kd bd : ByteArray) : ∃ x y z u m v, repV k t f o n b kd bd = stV x y z u m v := by
  unfold repV
  split
  · exact ⟨_, _, _, _, _, _, rfl⟩
  · exact ⟨_, _, _, _, _, _, rfl⟩
theorem name_le {s : ByteArray} (h : nameB s = true) : s.size ≤ 20 := by
  unfold nameB at h
  simp at h
  exact h.2.1

set_option maxRecDepth 100000 in
set_option maxHeartbeats 2000000 in
theorem impl_fault (k t f o : ByteArray) (n : Int) (b nm : ByteArray) (w : World) (hk : k.size ≤ 2000000) (ht : t.size ≤ 2000000) (hf : f.size ≤ 2000000) (ho : o.size ≤ 2000000) (hbz : b.size ≤ 2000000) (hnm : nm.size ≤ 2000000) (hm : MaxL w) :
    Calls Tryz.prog 91 #[.agg #[.string k, .string t, .string f, .string o, .int .i64 n, .string b], .string nm] w fun e w' => e = .returned (fltV k t f o n b nm) ∧ Below w.heap.size w w' := by
  have i1 := fun w => impl_name nm w (by unfold maxLen; omega)
  have i2 := fun w hm => impl_reply k t f o n b errS nm w hk ht hf ho hbz (by decide) hnm hm
  cases h1 : (t.toList == errS.toList)
  · cases h2 : nameB nm
    · rw [fltV_bad h2]
      rw [h2] at i1
      rw [err_list] at h1
      clear h2 i2 hm
      go_enter Tryz.func91, Tryz.ntmps91
      go_wp2_with (go_at_call 83; go_fit (i1 _); rintro e w1 ⟨rfl, rfl⟩)
      exact bodyPost_ret (v := stV ⟨#[]⟩ ⟨#[]⟩ ⟨#[]⟩ ⟨#[]⟩ 0 ⟨#[]⟩) (by simp [results, Tryz.results91, go_sem, stV]) rfl ⟨rfl, ((Below.refl _ _).alloc (Nat.le_refl _) _).alloc (by simp) _⟩
    · rw [fltV_rep h1 h2]
      rw [h2] at i1
      obtain ⟨x, y, z, u, m, v, hv⟩ := rep_form k t f o n b errS nm
      rw [hv] at i2 ⊢
      unfold stV at i2
      rw [err_list] at h1
      unfold errS at i2
      clear h2 hv
      have HM := Lib.hid (fun W (h : Below w.heap.size w W) => hm.below h hm.pos)
      clear hm
      go_enter Tryz.func91, Tryz.ntmps91
      go_wp2_with (first
        | (go_at_call 83; go_fit (i1 _); rintro e w1 ⟨rfl, rfl⟩)
        | (go_at_call 111; go_fit (i2 _ (HM.out _ (((Below.refl _ _).alloc (Nat.le_refl _) _).alloc (by simp) _))); rintro e w1 ⟨rfl, hb⟩; have hS := two_boxes hb; obtain ⟨⟨⟨p0, p1, p2, p3, p4, p5⟩, s0, s1, s2, s3, s4, s5⟩, ⟨f0, f1, f2, f3, f4, f5⟩, hz⟩ := cells_of_s hS; have HS := Lib.hid hS; clear hS))
      exact bodyPost_ret (v := stV x y z u m v) (by simp [results, Tryz.results91, go_sem, s0, s1, s2, s3, s4, s5, hz, stV]; try omega) rfl ⟨rfl, repS_ans HS.out _ _ _ _ _ _⟩
  · rw [fltV_yes h1]
    rw [err_list] at h1
    clear i1 i2 hm
    go_enter Tryz.func91, Tryz.ntmps91
    go_wp2
    exact bodyPost_ret (v := stV ⟨#[]⟩ ⟨#[]⟩ ⟨#[]⟩ ⟨#[]⟩ 0 ⟨#[]⟩) (by simp [results, Tryz.results91, go_sem, stV]) rfl ⟨rfl, ((Below.refl _ _).alloc (Nat.le_refl _) _).alloc (by simp) _⟩

set_option maxRecDepth 100000 in
set_option maxHeartbeats 2000000 in
theorem spec_fault (k t f o : ByteArray) (n : Int) (b nm : ByteArray) (w : World) (ht : t.size ≤ maxLen) (hf : f.size ≤ 2000000) (ho : o.size ≤ 2000000) (hbz : b.size ≤ maxLen) (hnm : nm.size ≤ maxLen) :
    Calls Tryz.prog 26 #[.agg #[.string k, .string t, .string f, .string o, .int .i64 n, .string b], .string nm] w fun e w' => e = .returned (fltV k t f o n b nm) ∧ Below w.heap.size w w' := by
  have i1 := fun w => spec_stright k t f o n b w ht hf ho hbz
  have i2 := fun w => spec_l04reply k t f o n b errS nm w (by unfold maxLen; decide) hf ho hnm
  have i3 := fun w => spec_name nm w hnm
  unfold maxLen at hnm
  by_cases g1 : 20000 < nm.size
  · rw [fltV_bad (by cases h : nameB nm; · rfl
                     · have := name_le h; omega)]
    clear i1 i2 i3
    go_enter Tryz.func26, Tryz.ntmps26
    go_wp2
    exact bodyPost_ret (v := stV ⟨#[]⟩ ⟨#[]⟩ ⟨#[]⟩ ⟨#[]⟩ 0 ⟨#[]⟩) (by simp [results, Tryz.results26, go_sem, stV]) rfl ⟨rfl, ((Below.refl _ _).alloc (Nat.le_refl _) _).alloc (by simp) _⟩
  cases hx : stB k t f o n b
  · have hz : fltV k t f o n b nm = stV ⟨#[]⟩ ⟨#[]⟩ ⟨#[]⟩ ⟨#[]⟩ 0 ⟨#[]⟩ := by
      unfold fltV
      rw [repV_no hx]
      split <;> rfl
    rw [hz]
    rw [hx] at i1
    clear hx hz i2 i3
    go_enter Tryz.func26, Tryz.ntmps26
    go_wp2_with (go_at_call 47; go_fit (i1 _); rintro e w1 ⟨rfl, hb⟩; have hS := two_boxes hb; obtain ⟨⟨⟨p0, p1, p2, p3, p4, p5⟩, s0, s1, s2, s3, s4, s5⟩, ⟨f0, f1, f2, f3, f4, f5⟩, hz⟩ := cells_of_s hS; have HS := Lib.hid hS; clear hS)
    exact bodyPost_ret (v := stV ⟨#[]⟩ ⟨#[]⟩ ⟨#[]⟩ ⟨#[]⟩ 0 ⟨#[]⟩) (by simp [results, Tryz.results26, go_sem, s0, s1, s2, s3, s4, s5, hz, stV]; try omega) rfl ⟨rfl, repS_ans HS.out _ _ _ _ _ _⟩
  rw [hx] at i1
  cases h1 : (t.toList == errS.toList)
  · cases h2 : nameB nm
    · rw [fltV_bad h2]
      rw [h2] at i3
      rw [err_list] at h1
      clear h2 i2 hx
      go_enter Tryz.func26, Tryz.ntmps26
      go_wp2_with (first
        | (go_at_call 47; go_fit (i1 _); rintro e w1 ⟨rfl, hb⟩; have hS := two_boxes hb; obtain ⟨⟨⟨p0, p1, p2, p3, p4, p5⟩, s0, s1, s2, s3, s4, s5⟩, ⟨f0, f1, f2, f3, f4, f5⟩, hz⟩ := cells_of_s hS; have HS := Lib.hid hS; clear hS)
        | (go_at_call 49; go_fit (i3 _); rintro e w2 ⟨rfl, rfl⟩))
      exact bodyPost_ret (v := stV ⟨#[]⟩ ⟨#[]⟩ ⟨#[]⟩ ⟨#[]⟩ 0 ⟨#[]⟩) (by simp [results, Tryz.results26, go_sem, s0, s1, s2, s3, s4, s5, hz, stV]; try omega) rfl ⟨rfl, repS_ans HS.out _ _ _ _ _ _⟩
    · rw [fltV_rep h1 h2, repV_l4 hx]
      rw [h2] at i3
      obtain ⟨x, y, z, u, m, v, hv⟩ := l4_form k f o n errS nm
      rw [hv] at i2 ⊢
      unfold stV at i2
      rw [err_list] at h1
      unfold errS at i2
      clear h2 hv hx
      go_enter Tryz.func26, Tryz.ntmps26
      go_wp2_with (first
        | (go_at_call 47; go_fit (i1 _); rintro e w1 ⟨rfl, hb⟩; have hS := two_boxes hb; obtain ⟨⟨⟨p0, p1, p2, p3, p4, p5⟩, s0, s1, s2, s3, s4, s5⟩, ⟨f0, f1, f2, f3, f4, f5⟩, hz⟩ := cells_of_s hS; have HS := Lib.hid hS; clear hS)
        | (go_at_call 49; go_fit (i3 _); rintro e w2 ⟨rfl, rfl⟩)
        | (go_at_call 50; go_fit (i2 _); rintro e w2 ⟨rfl, hb2⟩; have hS := repS_on HS.out hb2; obtain ⟨⟨⟨p0, p1, p2, p3, p4, p5⟩, s0, s1, s2, s3, s4, s5⟩, ⟨f0, f1, f2, f3, f4, f5⟩, hz⟩ := cells_of_s hS; have HS := Lib.hid hS; clear hS))
      exact bodyPost_ret (v := stV x y z u m v) (by simp [results, Tryz.results26, go_sem, s0, s1, s2, s3, s4, s5, hz, stV]; try omega) rfl ⟨rfl, repS_ans HS.out _ _ _ _ _ _⟩
  · rw [fltV_yes h1]
    rw [err_list] at h1
    clear i2 i3 hx
    go_enter Tryz.func26, Tryz.ntmps26
    go_wp2_with (go_at_call 47; go_fit (i1 _); rintro e w1 ⟨rfl, hb⟩; have hS := two_boxes hb; obtain ⟨⟨⟨p0, p1, p2, p3, p4, p5⟩, s0, s1, s2, s3, s4, s5⟩, ⟨f0, f1, f2, f3, f4, f5⟩, hz⟩ := cells_of_s hS; have HS := Lib.hid hS; clear hS)
    exact bodyPost_ret (v := stV ⟨#[]⟩ ⟨#[]⟩ ⟨#[]⟩ ⟨#[]⟩ 0 ⟨#[]⟩) (by simp [results, Tryz.results26, go_sem, s0, s1, s2, s3, s4, s5, hz, stV]; try omega) rfl ⟨rfl, repS_ans HS.out _ _ _ _ _ _⟩
end Go.Proofs.YtpjmcpfmnlfmdaaGreat

namespace Go.Proofs.YtpjmcpfmnlfmdaaGreat
set_option linter.unusedSimpArgs false
set_option linter.unusedVariables false
open Go.RowKit

end Go.Proofs.YtpjmcpfmnlfmdaaGreat
