/- impl.withSession, impl.Absent, impl.Present. -/
import Derived.Test.YtkdljhmenejckaaSeAt
import Derived.Test.YtkdljhmenejckaaSeCopy
namespace Go.Proofs.Ytkdljhmenejckaa
set_option linter.unusedSimpArgs false
set_option linter.unusedVariables false
open Go.RowKit Go.Joins

/-- The answer R, in memory of the call's own. -/
def SoIs (B : Nat) (R : SoL) (e : Ending) (W : World) : Prop := ∃ p k, e = .returned (.agg #[.slice p R.l.length k, .int .i64 R.c]) ∧ OwnC seC W B 42 4 (.slice p R.l.length k) R.l
theorem so_ill (B : Nat) (c : Int) (W : World) : SoIs B (illS c) (.returned (.agg #[.slice none 0 0, .int .i64 c])) W := ⟨none, 0, rfl, ownC_nil _ _ _ _ _⟩
theorem at_bad {xs : List SeL} {y : SeL} (h : (atR xs y.r).2 ≠ 0) : withR xs y = illS (atR xs y.r).2 := by
  unfold atR at h ⊢
  unfold withR
  split
  · rfl
  · rename_i h1
    rw [if_neg h1] at h
    split
    · rfl
    · rename_i h2
      rw [if_neg h2] at h
      split
      · rfl
      · rename_i h3
        rw [if_neg h3] at h
        exact absurd rfl h
theorem at_ok {xs : List SeL} {r : ByteArray} (h : (atR xs r).2 = 0) : ¬ (400 < xs.length ∨ 20000 < r.size) ∧ okB xs = true ∧ hereB r xs = true ∧ (atR xs r).1 = (posS r xs : Int) := by
  unfold atR at h ⊢
  by_cases h1 : 400 < xs.length ∨ 20000 < r.size
  · rw [if_pos h1] at h; exact absurd h (by decide)
  rw [if_neg h1] at h ⊢
  by_cases h2 : okB xs = false
  · rw [if_pos h2] at h; exact absurd h (by decide)
  rw [if_neg h2] at h ⊢
  by_cases h3 : hereB r xs = false
  · rw [if_pos h3] at h; exact absurd (show (6 : Int) = 0 from h) (by decide)
  rw [if_neg h3]
  exact ⟨h1, by simpa using h2, by simpa using h3, rfl⟩
theorem here_lt {xs : List SeL} {r : ByteArray} (h : hereB r xs = true) : posS r xs < xs.length := by
  rcases Nat.lt_or_ge (posS r xs) xs.length with h1 | h1
  · exact h1
  · rw [here_end (by omega)] at h; cases h
theorem with_ok {xs : List SeL} {y : SeL} (h1 : ¬ (400 < xs.length ∨ 20000 < y.r.size)) (h2 : okB xs = true) (h3 : hereB y.r xs = true) : withR xs y = if seB y = false then illS 1 else ⟨xs.set (posS y.r xs) y, 0⟩ := by
  unfold withR
  rw [if_neg h1, if_neg (by rw [h2]; decide), if_neg (by rw [h3]; decide)]
/-- The boxes of withSession. -/
def Wt9 (w W : World) (y : SeL) : Prop := Arr W w.heap.size 42 [.string y.r, .bool y.o, .int .i64 y.p, .string y.s] ∧ Arr W (w.heap.size + 1) 27 [.slice none 0 0, .int .i64 0] ∧ Below w.heap.size w W
theorem Wt9.on {w W W2 : World} {y : SeL} (h : Wt9 w W y) (hb : Below W.heap.size W W2) : Wt9 w W2 y := ⟨arr9_on h.1 hb, arr9_on h.2.1 hb, h.2.2.trans (hb.mono h.2.2.size)⟩
theorem wt9_start (w : World) (y : SeL) : Wt9 w ((w.alloc (.cells #[.string y.r, .bool y.o, .int .i64 y.p, .string y.s] 42)).alloc (.cells #[.slice none 0 0, .int .i64 0] 27)) y := by
  have h2 := Arr.fresh (w.alloc (.cells #[.string y.r, .bool y.o, .int .i64 y.p, .string y.s] 42)) 27 [.slice none 0 0, .int .i64 0]
  rw [World.size_alloc] at h2
  exact ⟨arr9_on (Arr.fresh w 42 [.string y.r, .bool y.o, .int .i64 y.p, .string y.s]) ((Below.refl _ _).alloc (Nat.le_refl _) _), h2, ((Below.refl _ _).alloc (Nat.le_refl _) _).alloc (by simp) _⟩
theorem arr9_two {w : World} {b t : Nat} {a0 a1 : Value} (h : Arr w b t [a0, a1]) : (w.cell? ⟨b, 0, none⟩ = some a0 ∧ w.cell? ⟨b, 1, none⟩ = some a1) ∧ w.frozen? ⟨b, 0, none⟩ = false ∧ w.frozen? ⟨b, 1, none⟩ = false := ⟨⟨h.cell 0, h.cell 1⟩, h.free 0, h.free 1⟩
theorem arr9_lt {w : World} {b t : Nat} {cs : List Value} (h : Arr w b t cs) : b < w.heap.size := (Array.getElem?_eq_some_iff.1 h).1
theorem flat_set9 {u : Value} {y : SeL} : ∀ (xs : List SeL) (i j : Nat) (hi : i < xs.length), j < 4 → seC y = (seC xs[i]).set j u → (xs.set i y).flatMap seC = (xs.flatMap seC).set (i * 4 + j) u
  | x :: xs, 0, j, hi, hj, h => by
    rw [List.set_cons_zero, List.flatMap_cons, List.flatMap_cons, Nat.zero_mul, Nat.zero_add, List.set_append_left _ _ (by rw [seC_len]; exact hj)]
    rw [show seC y = (seC x).set j u from h]
  | x :: xs, i + 1, j, hi, hj, h => by
    rw [List.set_cons_succ, List.flatMap_cons, List.flatMap_cons, List.set_append_right _ _ (by rw [seC_len, Nat.add_mul, Nat.one_mul]; omega), seC_len, show (i + 1) * 4 + j - 4 = i * 4 + j by rw [Nat.add_mul, Nat.one_mul]; omega]
    rw [flat_set9 xs i j (by simpa using hi) hj (by simpa using h)]
theorem own_set9 {w : World} {B e g n c : Nat} {xs : List SeL} (h : OwnC seC w B e 4 (.slice (some ⟨g, 0, none⟩) n c) xs) (i j : Nat) (hi : i < xs.length) (hj : j < 4) {u : Value} {y : SeL} (hy : seC y = (seC xs[i]).set j u) :
    OwnC seC (w.setCell ⟨g, i * 4 + j, none⟩ u) B e 4 (.slice (some ⟨g, 0, none⟩) n c) (xs.set i y) := by
  refine ⟨by rw [List.length_set, flat_set9 xs i j hi hj hy, List.length_set]; exact h.1, ?_⟩
  rcases h.2 with ⟨h0, _⟩ | ⟨g', c', cur, h1, h2, h3, h4, h5, h6, h7⟩
  · cases h0
  · injection h1 with e1 e2 e3
    injection e1 with e1
    injection e1 with e1
    subst e1 e3
    have hA : Arr w g e cur.toList := by unfold Arr; simpa using h3
    have hA2 := hA.put (i * 4 + j) u
    refine .inr ⟨g, c, (cur.toList.set (i * 4 + j) u).toArray, by rw [List.length_set, ← e2], h2, hA2, by rw [List.length_set]; exact h4, h5, by simpa using h6, ?_⟩
    rw [List.length_set, flat_set9 xs i j hi hj hy, ← h7, List.take_set]
/-- An element is stored. -/
def put9 (W : World) (g i : Nat) (y : SeL) : World := (((W.setCell ⟨g, i * 4, none⟩ (.string y.r)).setCell ⟨g, i * 4 + 1, none⟩ (.bool y.o)).setCell ⟨g, i * 4 + 2, none⟩ (.int .i64 y.p)).setCell ⟨g, i * 4 + 3, none⟩ (.string y.s)
theorem own_put9 {w : World} {B e g n c : Nat} {xs : List SeL} (h : OwnC seC w B e 4 (.slice (some ⟨g, 0, none⟩) n c) xs) (i : Nat) (hi : i < xs.length) (y : SeL) : OwnC seC (put9 w g i y) B e 4 (.slice (some ⟨g, 0, none⟩) n c) (xs.set i y) := by
  have h1 := own_set9 h i 0 hi (by decide) (u := .string y.r) (y := ⟨y.r, xs[i].o, xs[i].p, xs[i].s⟩) rfl
  have h2 := own_set9 h1 i 1 (by rw [List.length_set]; exact hi) (by decide) (u := .bool y.o) (y := ⟨y.r, y.o, xs[i].p, xs[i].s⟩) (by rw [List.getElem_set_self]; rfl)
  rw [List.set_set] at h2
  have h3 := own_set9 h2 i 2 (by rw [List.length_set]; exact hi) (by decide) (u := .int .i64 y.p) (y := ⟨y.r, y.o, y.p, xs[i].s⟩) (by rw [List.getElem_set_self]; rfl)
  rw [List.set_set] at h3
  have h4 := own_set9 h3 i 3 (by rw [List.length_set]; exact hi) (by decide) (u := .string y.s) (y := y) (by rw [List.getElem_set_self]; rfl)
  rw [List.set_set] at h4
  exact h4
theorem own_free9 {w : World} {B e g n c : Nat} {xs : List SeL} (h : OwnC seC w B e 4 (.slice (some ⟨g, 0, none⟩) n c) xs) (i : Nat) (hi : i < xs.length) :
    (w.cell? ⟨g, i * 4, none⟩ = some (.string xs[i].r) ∧ w.cell? ⟨g, i * 4 + 1, none⟩ = some (.bool xs[i].o) ∧ w.cell? ⟨g, i * 4 + 2, none⟩ = some (.int .i64 xs[i].p) ∧ w.cell? ⟨g, i * 4 + 3, none⟩ = some (.string xs[i].s)) ∧
    w.frozen? ⟨g, i * 4, none⟩ = false ∧ w.frozen? ⟨g, i * 4 + 1, none⟩ = false ∧ w.frozen? ⟨g, i * 4 + 2, none⟩ = false ∧ w.frozen? ⟨g, i * 4 + 3, none⟩ = false := by
  have hn : n = xs.length := by
    rcases h.2 with ⟨h0, _⟩ | ⟨g', cap', cur, h1, _⟩
    · cases h0
    · injection h1 with _ h2 _
  subst hn
  have h' : w.ownsRow B e 4 (.slice (some ⟨g, 0, none⟩) xs.length c) xs.length (xs.flatMap seC) := h
  exact ⟨⟨OwnC.cell seC_len h i 0 hi (by decide), OwnC.cell seC_len h i 1 hi (by decide), OwnC.cell seC_len h i 2 hi (by decide), OwnC.cell seC_len h i 3 hi (by decide)⟩, h'.frozenAt _, h'.frozenAt _, h'.frozenAt _, h'.frozenAt _⟩
theorem Wt9.put {w W : World} {y : SeL} (h : Wt9 w W y) {g : Nat} (hg : w.heap.size + 2 ≤ g) (i : Nat) (z : SeL) : Wt9 w (put9 W g i z) y := by
  have one : ∀ (W : World) (j : Nat) (u : Value), Wt9 w W y → Wt9 w (W.setCell ⟨g, j, none⟩ u) y := fun W j u h =>
    ⟨(heap_setCell_other W ⟨g, j, none⟩ w.heap.size u (by show w.heap.size ≠ g; omega)).trans h.1, (heap_setCell_other W ⟨g, j, none⟩ (w.heap.size + 1) u (by show w.heap.size + 1 ≠ g; omega)).trans h.2.1, h.2.2.setCell (p := ⟨g, j, none⟩) (by show w.heap.size ≤ g; omega) _⟩
  exact one _ _ _ (one _ _ _ (one _ _ _ (one _ _ _ h)))
set_option maxRecDepth 100000 in
set_option maxHeartbeats 2000000 in
theorem impl_with (xs : List SeL) (y : SeL) (p : Option Addr) (c : Nat) (w : World) (hn : xs.length ≤ 1048576) (hr : y.r.size ≤ 1048576) (hs : y.s.size ≤ 1048576) (hw : ∀ x ∈ xs, x.r.size ≤ 1048576 ∧ x.s.size ≤ 1048576) (hR : RowC seC 4 w p xs) :
    Calls Try.prog 63 #[.slice p xs.length c, seV y] w fun e w' => SoIs w.heap.size (withR xs y) e w' ∧ Below w.heap.size w w' := by
  have HR := Lib.hid (fun W (h : Below w.heap.size w W) => hR.on h)
  have i1 := fun W h => impl_at xs y.r p c W hn hr (fun x hx => by have := (hw x hx).1; unfold maxLen; omega) h
  have i2 := fun W => impl_se y W (by unfold maxLen; omega)
  have i3 := fun W h => impl_sescopy xs p c W hn hw h
  have i4 := fun W => impl_secopy y W hr hs
  have HS := Lib.hid (wt9_start w y)
  obtain ⟨K, hK⟩ : ∃ K, (atR xs y.r).1 = K := ⟨_, rfl⟩
  obtain ⟨C, hC⟩ : ∃ C, (atR xs y.r).2 = C := ⟨_, rfl⟩
  rw [hK, hC] at i1
  by_cases h0 : C ≠ 0
  · have hw0 := at_bad (xs := xs) (y := y) (by rw [hC]; exact h0)
    rw [hC] at hw0
    rw [hw0]
    have q1 : (C != 0) = true := by simpa using h0
    unfold seV
    clear hR hw hr hs hK hC h0 hw0 i2 i3 i4
    go_enter Try.func63, Try.ntmps63
    go_wp2_with (go_at_call 57; go_fit (i1 _ (HR.out _ HS.out.2.2)); rintro e w1 ⟨rfl, hb⟩; have HS1 := Lib.hid (HS.out.on hb); clear hb; obtain ⟨⟨c0, c1⟩, f0, f1⟩ := arr9_two HS1.out.2.1)
    have hE : Arr _ (w.heap.size + 1) 27 [.slice none 0 0, .int .i64 C] := ((HS1.out.2.1.put 0 (.slice none 0 0)).put 1 (.int .i64 C))
    exact bodyPost_ret (v := .agg #[.slice none 0 0, .int .i64 C]) (results_cell_row (P := Try.prog) Try.results63 _ _ (w.heap.size + 1) 27 _ (0, 0) _ rfl hE Try.underlying27 rfl (by kernel_rfl)) rfl
      ⟨so_ill _ _ _, (HS1.out.2.2.setCell (p := ⟨w.heap.size + 1, 0, none⟩) (Nat.le_succ _) _).setCell (p := ⟨w.heap.size + 1, 1, none⟩) (Nat.le_succ _) _⟩
  · obtain rfl : C = 0 := by omega
    obtain ⟨g1, g2, g3, g4⟩ := at_ok hC
    have hlt := here_lt g3
    rw [with_ok g1 g2 g3]
    obtain ⟨P, hP⟩ : ∃ P, posS y.r xs = P := ⟨_, rfl⟩
    rw [hP] at hlt g4 ⊢
    rw [hK] at g4
    subst g4
    obtain ⟨n, hxn⟩ : ∃ n, xs.length = n := ⟨_, rfl⟩
    have HN := Lib.hid hxn
    have HLT := Lib.hid hlt
    rw [hxn] at hn i1 i3 hlt ⊢
    have q1 : (0 : Int) ≤ (P : Int) := by omega
    have q2 : (P : Int) < (n : Int) := by omega
    obtain ⟨b1, h1⟩ : ∃ b, seB y = b := ⟨_, rfl⟩
    rw [h1] at i2 ⊢
    unfold seV at i2 i4 ⊢
    clear hR hw hr hs hK hC h0 hxn h1 hP g1 g2 g3
    cases b1
    · rw [if_pos rfl]
      go_enter Try.func63, Try.ntmps63
      go_wp2_with (first
        | (go_at_call 57; go_fit (i1 _ (HR.out _ HS.out.2.2)); rintro e w1 ⟨rfl, hb⟩; have HS1 := Lib.hid (HS.out.on hb); clear hb; obtain ⟨⟨a0, a1, a2, a3⟩, -⟩ := arr9_cells HS1.out.1)
        | (go_at_call 76; go_fit (i2 _); rintro e w2 ⟨rfl, hb⟩; have HS2 := Lib.hid (HS1.out.on hb); clear hb; obtain ⟨⟨c0, c1⟩, f0, f1⟩ := arr9_two HS2.out.2.1))
      have hE : Arr _ (w.heap.size + 1) 27 [.slice none 0 0, .int .i64 1] := ((HS2.out.2.1.put 0 (.slice none 0 0)).put 1 (.int .i64 1))
      exact bodyPost_ret (v := .agg #[.slice none 0 0, .int .i64 1]) (results_cell_row (P := Try.prog) Try.results63 _ _ (w.heap.size + 1) 27 _ (0, 0) _ rfl hE Try.underlying27 rfl (by kernel_rfl)) rfl
        ⟨so_ill _ _ _, (HS2.out.2.2.setCell (p := ⟨w.heap.size + 1, 0, none⟩) (Nat.le_succ _) _).setCell (p := ⟨w.heap.size + 1, 1, none⟩) (Nat.le_succ _) _⟩
    · rw [if_neg (by decide)]
      go_enter Try.func63, Try.ntmps63
      go_wp2_with (first
        | (go_at_call 57; go_fit (i1 _ (HR.out _ HS.out.2.2)); rintro e w1 ⟨rfl, hb⟩; have HS1 := Lib.hid (HS.out.on hb); clear hb; obtain ⟨⟨a0, a1, a2, a3⟩, -⟩ := arr9_cells HS1.out.1)
        | (go_at_call 76; go_fit (i2 _); rintro e w2 ⟨rfl, hb⟩; have HS2 := Lib.hid (HS1.out.on hb); clear hb)
        | (go_at_call 60; go_fit (i3 _ (HR.out _ HS2.out.2.2)); rintro e w3 ⟨⟨rfl, hv⟩, hb⟩; have HS3 := Lib.hid (HS2.out.on hb); have HV3 := Lib.hid hv; clear hb hv; obtain ⟨⟨a0, a1, a2, a3⟩, -⟩ := arr9_cells HS3.out.1)
        | (go_at_call 98; go_fit (i4 _); rintro e w4 ⟨rfl, hb⟩; have HS4 := Lib.hid (HS3.out.on hb); have HV4 := Lib.hid (HV3.out.on hb); clear hb; obtain ⟨⟨r0, r1, r2, r3⟩, f0, f1, f2, f3⟩ := own_free9 HV4.out P HLT.out; have hg2 := arr9_lt HS2.out.2.1; obtain ⟨⟨c0, c1⟩, k0, k1⟩ := arr9_two HS4.out.2.1))
      have hP9 := HS4.out.put (show w.heap.size + 2 ≤ w2.heap.size by omega) P y
      have hO9 := own_put9 HV4.out P HLT.out y
      have hE : Arr _ (w.heap.size + 1) 27 [.slice (some ⟨w2.heap.size, 0, none⟩) n n, .int .i64 0] := ((hP9.2.1.put 0 (.slice (some ⟨w2.heap.size, 0, none⟩) n n)).put 1 (.int .i64 0))
      have hL : (xs.set P y).length = n := by rw [List.length_set]; exact HN.out
      have hO : OwnC seC (((put9 w4 w2.heap.size P y).setCell ⟨w.heap.size + 1, 0, none⟩ (.slice (some ⟨w2.heap.size, 0, none⟩) n n)).setCell ⟨w.heap.size + 1, 1, none⟩ (.int .i64 0)) w2.heap.size 42 4 (.slice (some ⟨w2.heap.size, 0, none⟩) n n) (xs.set P y) := (hO9.low (a := ⟨w.heap.size + 1, 0, none⟩) hg2 _).low (a := ⟨w.heap.size + 1, 1, none⟩) hg2 _
      exact bodyPost_ret (v := .agg #[.slice (some ⟨w2.heap.size, 0, none⟩) n n, .int .i64 0]) (results_cell_row (P := Try.prog) Try.results63 _ _ (w.heap.size + 1) 27 _ (0, 0) _ rfl hE Try.underlying27 rfl (by kernel_rfl)) rfl
        ⟨⟨some ⟨w2.heap.size, 0, none⟩, n, by show _ = Ending.returned (.agg #[.slice (some ⟨w2.heap.size, 0, none⟩) (xs.set P y).length n, .int .i64 0]); rw [hL], by show OwnC _ _ _ _ _ (.slice _ (xs.set P y).length n) _; rw [hL]; exact hO.mono (by omega)⟩, (hP9.2.2.setCell (p := ⟨w.heap.size + 1, 0, none⟩) (Nat.le_succ _) _).setCell (p := ⟨w.heap.size + 1, 1, none⟩) (Nat.le_succ _) _⟩
/-- An answer is passed on: the caller's box. -/
theorem pass9 {w W W2 : World} {b : Nat} {R : SoL} {p : Option Addr} {k B : Nat} (hA : Arr W b 27 [.slice none 0 0, .int .i64 0]) (hb : Below w.heap.size w W) (hB : w.heap.size ≤ b) (hbB : b < B) (ho : OwnC seC W B 42 4 (.slice p R.l.length k) R.l) :
    Arr ((W.setCell ⟨b, 0, none⟩ (.slice p R.l.length k)).setCell ⟨b, 1, none⟩ (.int .i64 R.c)) b 27 [.slice p R.l.length k, .int .i64 R.c] ∧ OwnC seC ((W.setCell ⟨b, 0, none⟩ (.slice p R.l.length k)).setCell ⟨b, 1, none⟩ (.int .i64 R.c)) w.heap.size 42 4 (.slice p R.l.length k) R.l ∧ Below w.heap.size w ((W.setCell ⟨b, 0, none⟩ (.slice p R.l.length k)).setCell ⟨b, 1, none⟩ (.int .i64 R.c)) :=
  ⟨(hA.put 0 _).put 1 _, ((ho.low (a := ⟨b, 0, none⟩) hbB _).low (a := ⟨b, 1, none⟩) hbB _).mono (by omega), (hb.setCell (p := ⟨b, 0, none⟩) hB _).setCell (p := ⟨b, 1, none⟩) hB _⟩
set_option maxHeartbeats 1000000 in
theorem impl_absent (xs : List SeL) (r : ByteArray) (p : Option Addr) (c : Nat) (w : World) (hn : xs.length ≤ 1048576) (hr : r.size ≤ 1048576) (hw : ∀ x ∈ xs, x.r.size ≤ 1048576 ∧ x.s.size ≤ 1048576) (hR : RowC seC 4 w p xs) :
    Calls Try.prog 14 #[.slice p xs.length c, .string r] w fun e w' => SoIs w.heap.size (absR xs r) e w' ∧ Below w.heap.size w w' := by
  have i1 := fun W h => impl_with xs (newS r) p c W hn hr (show 0 ≤ 1048576 by omega) hw h
  unfold seV newS at i1
  unfold absR newS
  have HA0 : Hid (Arr (w.alloc (.cells #[.slice none 0 0, .int .i64 0] 27)) w.heap.size 27 [.slice none 0 0, .int .i64 0] ∧ Below w.heap.size w (w.alloc (.cells #[.slice none 0 0, .int .i64 0] 27))) := Lib.hid ⟨Arr.fresh w _ [.slice none 0 0, .int .i64 0], (Below.refl _ _).alloc (Nat.le_refl _) _⟩
  have HR := Lib.hid (hR.on HA0.out.2)
  obtain ⟨R, hRR⟩ : ∃ R, withR xs ⟨r, false, 0, ⟨#[]⟩⟩ = R := ⟨_, rfl⟩
  rw [hRR] at i1 ⊢
  clear hR hw hr hRR
  dsimp only at i1
  go_enter Try.func14, Try.ntmps14
  go_wp2_with (go_at_call 63; go_fit (i1 _ HR.out); rintro e w1 ⟨⟨q, k, rfl, hv⟩, hb⟩; have HV := Lib.hid hv; have HB := Lib.hid hb; have HA1 := Lib.hid (arr9_on HA0.out.1 hb); clear hb hv; obtain ⟨⟨c0, c1⟩, f0, f1⟩ := arr9_two HA1.out)
  obtain ⟨hE, hO, hBl⟩ := pass9 (W2 := w) HA1.out (HA0.out.2.trans (HB.out.mono HA0.out.2.size)) (Nat.le_refl _) (by simp) HV.out
  exact bodyPost_ret (v := .agg #[.slice q R.l.length k, .int .i64 R.c]) (results_cell_row (P := Try.prog) Try.results14 _ _ w.heap.size 27 _ (0, 0) _ rfl hE Try.underlying27 rfl (by kernel_rfl)) rfl
    ⟨⟨q, k, rfl, hO⟩, hBl⟩
set_option maxHeartbeats 1000000 in
theorem impl_present (xs : List SeL) (r : ByteArray) (pr : Int) (s : ByteArray) (p : Option Addr) (c : Nat) (w : World) (hn : xs.length ≤ 1048576) (hr : r.size ≤ 1048576) (hs : s.size ≤ 1048576) (hw : ∀ x ∈ xs, x.r.size ≤ 1048576 ∧ x.s.size ≤ 1048576) (hR : RowC seC 4 w p xs) :
    Calls Try.prog 12 #[.slice p xs.length c, .string r, .int .i64 pr, .string s] w fun e w' => SoIs w.heap.size (presR xs r pr s) e w' ∧ Below w.heap.size w w' := by
  have i1 := fun W h => impl_with xs ⟨r, true, pr, s⟩ p c W hn hr hs hw h
  unfold seV at i1
  unfold presR
  have HA0 : Hid (Arr (w.alloc (.cells #[.slice none 0 0, .int .i64 0] 27)) w.heap.size 27 [.slice none 0 0, .int .i64 0] ∧ Below w.heap.size w (w.alloc (.cells #[.slice none 0 0, .int .i64 0] 27))) := Lib.hid ⟨Arr.fresh w _ [.slice none 0 0, .int .i64 0], (Below.refl _ _).alloc (Nat.le_refl _) _⟩
  by_cases hbig : 20000 < s.size
  · rw [if_pos hbig]
    clear i1 hR hw
    go_enter Try.func12, Try.ntmps12
    go_wp2
    have hE := Arr.fresh w 27 [.slice none 0 0, .int .i64 2]
    exact bodyPost_ret (v := .agg #[.slice none 0 0, .int .i64 2]) (results_cell_row (P := Try.prog) Try.results12 _ _ w.heap.size 27 _ (0, 0) _ rfl hE Try.underlying27 rfl (by kernel_rfl)) rfl ⟨so_ill _ _ _, (Below.refl _ _).alloc (Nat.le_refl _) _⟩
  rw [if_neg hbig]
  have HR := Lib.hid (hR.on HA0.out.2)
  obtain ⟨R, hRR⟩ : ∃ R, withR xs ⟨r, true, pr, s⟩ = R := ⟨_, rfl⟩
  rw [hRR] at i1 ⊢
  clear hR hw hr hRR
  dsimp only at i1
  go_enter Try.func12, Try.ntmps12
  go_wp2_with (go_at_call 63; go_fit (i1 _ HR.out); rintro e w1 ⟨⟨q, k, rfl, hv⟩, hb⟩; have HV := Lib.hid hv; have HB := Lib.hid hb; have HA1 := Lib.hid (arr9_on HA0.out.1 hb); clear hb hv; obtain ⟨⟨c0, c1⟩, f0, f1⟩ := arr9_two HA1.out)
  obtain ⟨hE, hO, hBl⟩ := pass9 (W2 := w) HA1.out (HA0.out.2.trans (HB.out.mono HA0.out.2.size)) (Nat.le_refl _) (by simp) HV.out
  exact bodyPost_ret (v := .agg #[.slice q R.l.length k, .int .i64 R.c]) (results_cell_row (P := Try.prog) Try.results12 _ _ w.heap.size 27 _ (0, 0) _ rfl hE Try.underlying27 rfl (by kernel_rfl)) rfl
    ⟨⟨q, k, rfl, hO⟩, hBl⟩
end Go.Proofs.Ytkdljhmenejckaa
