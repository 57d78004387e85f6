/- slices.BinarySearchFunc on sessions, impl.sessionAt. -/
import Derived.Test.YtkdljhmenejckaaSeRightS
import Derived.Test.YtkdljhmenejckaaHandQ
namespace Go.Proofs.Ytkdljhmenejckaa
set_option linter.unusedSimpArgs false
set_option linter.unusedVariables false
open Go.RowKit

/-- An element of a row, and a box. -/
abbrev Elt_se (g k bx : Nat) (x y : SeL) (wr W : World) : Prop := (((W.cell? ⟨g, k * 4, none⟩ = some (.string x.r) ∧ W.cell? ⟨g, k * 4 + 1, none⟩ = some (.bool x.o) ∧ W.cell? ⟨g, k * 4 + 2, none⟩ = some (.int .i64 x.p) ∧ W.cell? ⟨g, k * 4 + 3, none⟩ = some (.string x.s)) ∧
  (W.cell? ⟨bx, 0, none⟩ = some (.string y.r) ∧ W.cell? ⟨bx, 1, none⟩ = some (.bool y.o) ∧ W.cell? ⟨bx, 2, none⟩ = some (.int .i64 y.p) ∧ W.cell? ⟨bx, 3, none⟩ = some (.string y.s))) ∧ (Below wr.heap.size wr W ∧ g < wr.heap.size ∧ bx < wr.heap.size))
theorem elt_se_on {g k bx : Nat} {x y : SeL} {wr W W2 : World} (h : Elt_se g k bx x y wr W) (hb : Below W.heap.size W W2) : Elt_se g k bx x y wr W2 := by
  obtain ⟨⟨⟨c0, c1, c2, c3⟩, d0, d1, d2, d3⟩, h1, h2, h3⟩ := h
  have ha : g < W.heap.size := Nat.lt_of_lt_of_le h2 h1.size
  have hx : bx < W.heap.size := Nat.lt_of_lt_of_le h3 h1.size
  exact ⟨⟨⟨(hb.cell (p := ⟨g, k * 4, none⟩) ha).trans c0, (hb.cell (p := ⟨g, k * 4 + 1, none⟩) ha).trans c1, (hb.cell (p := ⟨g, k * 4 + 2, none⟩) ha).trans c2, (hb.cell (p := ⟨g, k * 4 + 3, none⟩) ha).trans c3⟩,
    (hb.cell (p := ⟨bx, 0, none⟩) hx).trans d0, (hb.cell (p := ⟨bx, 1, none⟩) hx).trans d1, (hb.cell (p := ⟨bx, 2, none⟩) hx).trans d2, (hb.cell (p := ⟨bx, 3, none⟩) hx).trans d3⟩, h1.trans (hb.mono h1.size), h2, h3⟩
theorem elt_se_drew {g k bx : Nat} {x y : SeL} {wr W : World} (h : Elt_se g k bx x y wr W) : Elt_se g k bx x y wr W.drew := elt_se_on h (Below.refl _ _).drew
theorem half_nat (i j : Nat) (h : i < j) (hj : j ≤ 5) : i ≤ (i + j) / 2 ∧ (i + j) / 2 < j := by omega
set_option maxRecDepth 100000 in
set_option maxHeartbeats 2000000 in
theorem impl_bsearch (xs : List SeL) (y : SeL) (p : Option Addr) (c : Nat) (w : World) (hn : xs.length ≤ 5) (hI : IncR xs xs.length) (hR : RowC seC 4 w p xs) :
    Calls Try.prog 93 #[.slice p xs.length c, seV y, .func (.func 75) #[] #[]] w fun e w' => e = .returned (.tuple #[.int .i64 (posS y.r xs : Int), .bool (hereB y.r xs)]) ∧ Below w.heap.size w w' := by
  obtain ⟨P, hP⟩ : ∃ P, posS y.r xs = P := ⟨_, rfl⟩
  obtain ⟨Z, hZ⟩ : ∃ Z, hereB y.r xs = Z := ⟨_, rfl⟩
  have HPn : Hid (P ≤ xs.length) := Lib.hid (by rw [← hP]; exact pos_le _ _)
  have HLO : Hid (∀ i (hi : i < xs.length), i < P → Op.bytesLess xs[i].r.toList y.r.toList = true) := Lib.hid (fun i hi h => pos_lo hi (by rw [hP]; exact h))
  have HHI : Hid (∀ i (hi : i < xs.length), P ≤ i → Op.bytesLess xs[i].r.toList y.r.toList = false) := Lib.hid (fun i hi h => pos_hi hI hi (by rw [hP]; exact h))
  have HH1 : Hid (∀ h : P < xs.length, Z = (xs[P].r.toList == y.r.toList)) := Lib.hid (fun h => by subst hP; rw [← hZ]; exact here_at h)
  have HH2 : Hid (¬ P < xs.length → Z = false) := Lib.hid (fun h => by subst hP; rw [← hZ]; exact here_end h)
  obtain ⟨n, hxn⟩ : ∃ n, xs.length = n := ⟨_, rfl⟩
  have HP := Lib.hid (fun W (h : Below w.heap.size w W) => hR.on h)
  have HN := Lib.hid hxn
  rw [hP, hZ]
  rw [hxn] at hn ⊢
  obtain ⟨r, o, pp, s⟩ := y
  unfold seV
  dsimp only at HLO HHI HH1 HH2 ⊢
  clear hR hxn hP hZ hI
  have HA0 : Hid (Arr (w.alloc (.cells #[.string r, .bool o, .int .i64 pp, .string s] 42)) w.heap.size 42 [.string r, .bool o, .int .i64 pp, .string s] ∧ Below w.heap.size w (w.alloc (.cells #[.string r, .bool o, .int .i64 pp, .string s] 42))) := Lib.hid ⟨Arr.fresh w _ [.string r, .bool o, .int .i64 pp, .string s], (Below.refl _ _).alloc (Nat.le_refl _) _⟩
  go_enter Try.func93, Try.ntmps93
  go_wp2
  go_loopw [9, 10] (fun iq jq wr => ∃ i j : Nat, i ≤ P ∧ P ≤ j ∧ j ≤ n ∧ iq = .int .i64 i ∧ jq = .int .i64 j ∧ Arr wr w.heap.size 42 [.string r, .bool o, .int .i64 pp, .string s] ∧ Below w.heap.size w wr) (fun i j _ => (intOf j).toNat - (intOf i).toNat)
  case atStart => exact ⟨0, n, Nat.zero_le _, by have := HPn.out; rw [HN.out] at this; exact this, Nat.le_refl _, rfl, rfl, HA0.out.1, HA0.out.2⟩
  case round =>
    obtain ⟨i, j, hi, hj, hjn, rfl, rfl, hA, hb⟩ := hrel
    have HB := Lib.hid hb
    have HA := Lib.hid hA
    have hzb : w.heap.size < wr.heap.size := (Array.getElem?_eq_some_iff.1 hA).1
    obtain ⟨d0, d1, d2, d3⟩ := arrS_cells hA
    by_cases hlt : i < j
    · obtain ⟨hh1, hh2⟩ := half_nat i j hlt (by omega)
      obtain ⟨h, hh⟩ : ∃ h, (i + j) / 2 = h := ⟨_, rfl⟩
      rw [hh] at hh1 hh2
      have hltn : h < xs.length := by rw [HN.out]; omega
      obtain ⟨g, rfl, hg, a0, a1, a2, a3⟩ := row_se4 (HP.out _ hb) hltn
      obtain ⟨x, hx⟩ : ∃ x, xs[h] = x := ⟨_, rfl⟩
      rw [hx] at a0 a1 a2 a3
      have HX := Lib.hid hx
      have HS : Hid (Elt_se g h w.heap.size x ⟨r, o, pp, s⟩ wr wr) := Lib.hid ⟨⟨⟨a0, a1, a2, a3⟩, d0, d1, d2, d3⟩, Below.refl _ _, hg, hzb⟩
      have i1 := fun W => cmp_res x ⟨r, o, pp, s⟩ W
      unfold seV at i1
      dsimp only at i1
      obtain ⟨z, hz⟩ : ∃ z, cmpI x.r r = z := ⟨_, rfl⟩
      have HC := Lib.hid hz
      rw [hz] at i1
      have hw1 : IntKind.i64.wrap ((i : Int) + (j : Int)) = (i : Int) + (j : Int) := IntWalk.i64_in _ (by omega)
      have q1 : (0 : Int) ≤ (h : Int) := by omega
      have q2 : (h : Int) < (n : Int) := by omega
      clear hb a0 a1 a2 a3 d0 d1 d2 d3 hx hg hz hA
      go_wp2
      rw [show ((i : Int) + (j : Int)) / 2 = (h : Int) by omega]
      go_region_held3 (fun W => (((W.cell? ⟨g, h * 4, none⟩ = some (.string x.r) ∧ W.cell? ⟨g, h * 4 + 1, none⟩ = some (.bool x.o) ∧ W.cell? ⟨g, h * 4 + 2, none⟩ = some (.int .i64 x.p) ∧ W.cell? ⟨g, h * 4 + 3, none⟩ = some (.string x.s)) ∧
          (W.cell? ⟨w.heap.size, 0, none⟩ = some (.string r) ∧ W.cell? ⟨w.heap.size, 1, none⟩ = some (.bool o) ∧ W.cell? ⟨w.heap.size, 2, none⟩ = some (.int .i64 pp) ∧ W.cell? ⟨w.heap.size, 3, none⟩ = some (.string s))) ∧ (Below wr.heap.size wr W ∧ g < wr.heap.size ∧ w.heap.size < wr.heap.size)))
        (with_reducible first | assumption | exact elt_se_drew HS.out | exact elt_se_on (y := ⟨r, o, pp, s⟩) (by assumption) hbN)
        (first | (go_at_call 75; go_fit (i1 _); rintro e wn ⟨rfl, hbN⟩; have HF := Lib.hid (elt_se_on (g := g) (k := h) (y := ⟨r, o, pp, s⟩) (wr := wr) (by assumption) hbN)))
      have HB2 := Lib.hid (HB.out.trans (HF.out.2.1.mono HB.out.size))
      have HA2 := Lib.hid (arrS_on HA.out HF.out.2.1)
      have hcl : (decide (z < 0)) = Op.bytesLess x.r.toList r.toList := by
        rw [← HC.out]
        cases hb : Op.bytesLess x.r.toList r.toList
        · exact decide_eq_false (fun h => by have := cmp_neg.1 h; rw [hb] at this; cases this)
        · exact decide_eq_true (cmp_neg.2 hb)
      have HCL := Lib.hid hcl
      clear hcl
      by_cases hneg : z < 0
      · have hP : h < P := by
          rcases Nat.lt_or_ge h P with h1 | h1
          · exact h1
          · have := HHI.out h hltn h1
            rw [HX.out, ← HCL.out, decide_eq_true hneg] at this
            cases this
        go_wp2
        go_roundw
        case rel => exact ⟨h + 1, j, by omega, hj, hjn, by go_num, rfl, HA2.out, HB2.out⟩
        case measure => simp [intOf]; omega
      · have hP : P ≤ h := by
          rcases Nat.lt_or_ge h P with h1 | h1
          · have := HLO.out h hltn h1
            rw [HX.out, ← HCL.out, decide_eq_false hneg] at this
            cases this
          · exact h1
        go_wp2
        go_roundw
        case rel => exact ⟨i, h, hi, hP, by omega, rfl, rfl, HA2.out, HB2.out⟩
        case measure => simp [intOf]; omega
    · obtain rfl : i = P := by omega
      obtain rfl : j = i := by omega
      by_cases hin : j < n
      · have hltn : j < xs.length := by rw [HN.out]; exact hin
        obtain ⟨g, rfl, hg, a0, a1, a2, a3⟩ := row_se4 (HP.out _ hb) hltn
        have hZ := HH1.out hltn
        obtain ⟨x, hx⟩ : ∃ x, xs[j] = x := ⟨_, rfl⟩
        rw [hx] at a0 a1 a2 a3 hZ
        have HS : Hid (Elt_se g j w.heap.size x ⟨r, o, pp, s⟩ wr wr) := Lib.hid ⟨⟨⟨a0, a1, a2, a3⟩, d0, d1, d2, d3⟩, Below.refl _ _, hg, hzb⟩
        have i1 := fun W => cmp_res x ⟨r, o, pp, s⟩ W
        unfold seV at i1
        dsimp only at i1
        obtain ⟨z, hz⟩ : ∃ z, cmpI x.r r = z := ⟨_, rfl⟩
        have HZZ : Hid (Z = (z == 0)) := Lib.hid (by
          rw [hZ, ← hz]
          by_cases e : x.r.toList = r.toList
          · rw [cmp_zero.2 e, e]; simp
          · rw [beq_eq_false_iff_ne.2 e]
            symm
            rw [beq_eq_false_iff_ne]
            exact fun h => e (cmp_zero.1 h))
        rw [hz] at i1
        have q1 : (0 : Int) ≤ (j : Int) := by omega
        have q2 : (j : Int) < (n : Int) := by omega
        clear hb a0 a1 a2 a3 d0 d1 d2 d3 hx hg hz hA hZ
        go_wp2
        go_region_held3 (fun W => (((W.cell? ⟨g, j * 4, none⟩ = some (.string x.r) ∧ W.cell? ⟨g, j * 4 + 1, none⟩ = some (.bool x.o) ∧ W.cell? ⟨g, j * 4 + 2, none⟩ = some (.int .i64 x.p) ∧ W.cell? ⟨g, j * 4 + 3, none⟩ = some (.string x.s)) ∧
          (W.cell? ⟨w.heap.size, 0, none⟩ = some (.string r) ∧ W.cell? ⟨w.heap.size, 1, none⟩ = some (.bool o) ∧ W.cell? ⟨w.heap.size, 2, none⟩ = some (.int .i64 pp) ∧ W.cell? ⟨w.heap.size, 3, none⟩ = some (.string s))) ∧ (Below wr.heap.size wr W ∧ g < wr.heap.size ∧ w.heap.size < wr.heap.size)))
          (with_reducible first | assumption | exact elt_se_drew HS.out | exact elt_se_on (y := ⟨r, o, pp, s⟩) (by assumption) hbN)
          (first | (go_at_call 75; go_fit (i1 _); rintro e wn ⟨rfl, hbN⟩; have HF := Lib.hid (elt_se_on (g := g) (k := j) (y := ⟨r, o, pp, s⟩) (wr := wr) (by assumption) hbN)))
        go_wp2
        exact bodyPost_ret (v := .tuple #[.int .i64 (j : Int), .bool (z == 0)]) (by simp [results, Try.results93, go_sem]) rfl ⟨by rw [HZZ.out], HB.out.trans (HF.out.2.1.mono HB.out.size)⟩
      · have hZ := HH2.out (by rw [HN.out]; exact hin)
        subst hZ
        clear hb d0 d1 d2 d3 hA
        go_wp2
        refine wp_region_held_drew (S := fun W => Below w.heap.size w W) (by kernel_rfl) HB.out.drew (fun hHeld => ?_)
        generalize wr.drew = Wd at hHeld ⊢
        refine takeQ (i := 0) (k := 35) (v := .int .i64 (j : Int)) rfl (by rfl) (by kernel_rfl) (by kernel_rfl) (by kernel_rfl) (fun _ _ _ h => h) (by rfl) ?_ hHeld ?_
        · intro w1 hSw; go_simp
        (try simp only [Act.put, List.setIfInBounds_toArray, List.set_cons_zero, List.set_cons_succ])
        refine takeQ (i := 1) (k := 36) (v := .int .i64 (j : Int)) rfl (by rfl) (by kernel_rfl) (by kernel_rfl) (by kernel_rfl) (fun _ _ _ h => h) (by rfl) ?_ hHeld ?_
        · intro w1 hSw; go_simp
        (try simp only [Act.put, List.setIfInBounds_toArray, List.set_cons_zero, List.set_cons_succ])
        refine takeQ (i := 2) (k := 37) (v := .int .i64 (n : Int)) rfl (by rfl) (by kernel_rfl) (by kernel_rfl) (by kernel_rfl) (fun _ _ _ h => h) (by rfl) ?_ hHeld ?_
        · intro w1 hSw; go_simp
        (try simp only [Act.put, List.setIfInBounds_toArray, List.set_cons_zero, List.set_cons_succ])
        refine takeQ (i := 3) (k := 38) (v := .bool false) rfl (by rfl) (by kernel_rfl) (by kernel_rfl) (by kernel_rfl) (fun _ _ _ h => h) (by rfl) ?_ hHeld ?_
        · intro w1 hSw; go_simp
        (try simp only [Act.put, List.setIfInBounds_toArray, List.set_cons_zero, List.set_cons_succ])
        refine takeQ (i := 4) (k := 39) (v := .bool false) rfl (by rfl) (by kernel_rfl) (by kernel_rfl) (by kernel_rfl) (fun _ _ _ h => h) (by rfl) ?_ hHeld ?_
        · intro w1 hSw; go_simp
        (try simp only [Act.put, List.setIfInBounds_toArray, List.set_cons_zero, List.set_cons_succ])
        refine skipQ (i := 5) (k := 40) rfl (by rfl) (by kernel_rfl) (by kernel_rfl) (by kernel_rfl) (fun _ _ _ h => h) (by rfl) hHeld ?_
        (try simp only [Act.put, List.setIfInBounds_toArray, List.set_cons_zero, List.set_cons_succ])
        refine skipQ (i := 6) (k := 41) rfl (by rfl) (by kernel_rfl) (by kernel_rfl) (by kernel_rfl) (fun _ _ _ h => h) (by rfl) hHeld ?_
        (try simp only [Act.put, List.setIfInBounds_toArray, List.set_cons_zero, List.set_cons_succ])
        refine skipQ (i := 7) (k := 42) rfl (by rfl) (by kernel_rfl) (by kernel_rfl) (by kernel_rfl) (fun _ _ _ h => h) (by rfl) hHeld ?_
        (try simp only [Act.put, List.setIfInBounds_toArray, List.set_cons_zero, List.set_cons_succ])
        refine skipQ (i := 8) (k := 43) rfl (by rfl) (by kernel_rfl) (by kernel_rfl) (by kernel_rfl) (fun _ _ _ h => h) (by rfl) hHeld ?_
        (try simp only [Act.put, List.setIfInBounds_toArray, List.set_cons_zero, List.set_cons_succ])
        refine skipQ (i := 9) (k := 44) rfl (by rfl) (by kernel_rfl) (by kernel_rfl) (by kernel_rfl) (fun _ _ _ h => h) (by rfl) hHeld ?_
        (try simp only [Act.put, List.setIfInBounds_toArray, List.set_cons_zero, List.set_cons_succ])
        refine skipQ (i := 10) (k := 45) rfl (by rfl) (by kernel_rfl) (by kernel_rfl) (by kernel_rfl) (fun _ _ _ h => h) (by rfl) hHeld ?_
        (try simp only [Act.put, List.setIfInBounds_toArray, List.set_cons_zero, List.set_cons_succ])
        refine skipQ (i := 11) (k := 46) rfl (by rfl) (by kernel_rfl) (by kernel_rfl) (by kernel_rfl) (fun _ _ _ h => h) (by rfl) hHeld ?_
        (try simp only [Act.put, List.setIfInBounds_toArray, List.set_cons_zero, List.set_cons_succ])
        refine skipQ (i := 12) (k := 47) rfl (by rfl) (by kernel_rfl) (by kernel_rfl) (by kernel_rfl) (fun _ _ _ h => h) (by rfl) hHeld ?_
        (try simp only [Act.put, List.setIfInBounds_toArray, List.set_cons_zero, List.set_cons_succ])
        refine takeQ (i := 13) (k := 48) (v := .bool false) rfl (by rfl) (by kernel_rfl) (by kernel_rfl) (by kernel_rfl) (fun _ _ _ h => h) (by rfl) ?_ hHeld ?_
        · intro w1 hSw; go_simp
        (try simp only [Act.put, List.setIfInBounds_toArray, List.set_cons_zero, List.set_cons_succ])
        refine takeQ (i := 14) (k := 6) (v := .int .i64 (j : Int)) rfl (by rfl) (by kernel_rfl) (by kernel_rfl) (by kernel_rfl) (fun _ _ _ h => h) (by rfl) ?_ hHeld ?_
        · intro w1 hSw; go_simp
        (try simp only [Act.put, List.setIfInBounds_toArray, List.set_cons_zero, List.set_cons_succ])
        refine takeQ (i := 15) (k := 7) (v := .bool false) rfl (by rfl) (by kernel_rfl) (by kernel_rfl) (by kernel_rfl) (fun _ _ _ h => h) (by rfl) ?_ hHeld ?_
        · intro w1 hSw; go_simp
        (try simp only [Act.put, List.setIfInBounds_toArray, List.set_cons_zero, List.set_cons_succ])
        refine wpAnyH_done (by kernel_rfl) ?_ _
        go_wp2
        exact bodyPost_ret (v := .tuple #[.int .i64 (j : Int), .bool false]) (by simp [results, Try.results93, go_sem]) rfl ⟨rfl, hHeld⟩
/-- What impl.sessionAt answers: an index and a code. -/
noncomputable def atR (xs : List SeL) (r : ByteArray) : Int × Int :=
  if 400 < xs.length ∨ 20000 < r.size then (0, 2) else if okB xs = false then (0, 1) else if hereB r xs = false then (posS r xs, 6) else (posS r xs, 0)
set_option maxHeartbeats 2000000 in
theorem impl_at (xs : List SeL) (r : ByteArray) (p : Option Addr) (c : Nat) (w : World) (hn : xs.length ≤ 1048576) (hr : r.size ≤ 1048576) (hw : ∀ x ∈ xs, x.r.size ≤ maxLen) (hR : RowC seC 4 w p xs) :
    Calls Try.prog 57 #[.slice p xs.length c, .string r] w fun e w' => e = .returned (.tuple #[.int .i64 (atR xs r).1, .int .i64 (atR xs r).2]) ∧ Below w.heap.size w w' := by
  have i1 := impl_seright xs p c w hn hw hR
  have i2 := fun W (h : Below w.heap.size w W) (hk : okB xs = true) => impl_bsearch xs (newS r) p c W (okB_iff.1 hk).1 (okB_iff.1 hk).2.1 (hR.on h)
  unfold seV newS at i2
  dsimp only at i2
  obtain ⟨n, hxn⟩ : ∃ n, xs.length = n := ⟨_, rfl⟩
  have HN := Lib.hid hxn
  unfold atR
  rw [hxn] at hn i1 i2 ⊢
  clear hR hw hxn
  by_cases h1 : 400 < n
  · rw [if_pos (.inl h1)]
    go_enter Try.func57, Try.ntmps57
    go_wp2
    exact bodyPost_ret (v := .tuple #[.int .i64 0, .int .i64 2]) (by simp [results, Try.results57, go_sem]) rfl ⟨rfl, Below.refl _ _⟩
  by_cases h2 : 20000 < r.size
  · rw [if_pos (.inr h2)]
    go_enter Try.func57, Try.ntmps57
    go_wp2
    exact bodyPost_ret (v := .tuple #[.int .i64 0, .int .i64 2]) (by simp [results, Try.results57, go_sem]) rfl ⟨rfl, Below.refl _ _⟩
  rw [if_neg (by omega)]
  obtain ⟨b1, h3⟩ : ∃ b, okB xs = b := ⟨_, rfl⟩
  rw [h3] at i1 i2 ⊢
  obtain ⟨P, hP⟩ : ∃ P, posS r xs = P := ⟨_, rfl⟩
  obtain ⟨Z, hZ⟩ : ∃ Z, hereB r xs = Z := ⟨_, rfl⟩
  rw [hP, hZ] at i2 ⊢
  clear h3 hP hZ
  cases b1
  · rw [if_pos rfl]
    go_enter Try.func57, Try.ntmps57
    go_wp2_with (go_at_call 27; go_fit i1; rintro e w1 ⟨rfl, hb⟩)
    exact bodyPost_ret (v := .tuple #[.int .i64 0, .int .i64 1]) (by simp [results, Try.results57, go_sem]) rfl ⟨rfl, hb⟩
  · rw [if_neg (by decide)]
    replace i2 := fun W h => i2 W h rfl
    cases Z
    · rw [if_pos rfl]
      go_enter Try.func57, Try.ntmps57
      go_wp2_with (first
        | (go_at_call 27; go_fit i1; rintro e w1 ⟨rfl, hb⟩; have HB := Lib.hid hb; clear hb)
        | (go_at_call 93; go_fit (i2 _ HB.out); rintro e w2 ⟨rfl, hb2⟩))
      exact bodyPost_ret (v := .tuple #[.int .i64 (P : Int), .int .i64 6]) (by simp [results, Try.results57, go_sem]) rfl ⟨rfl, HB.out.trans (hb2.mono HB.out.size)⟩
    · rw [if_neg (by decide)]
      go_enter Try.func57, Try.ntmps57
      go_wp2_with (first
        | (go_at_call 27; go_fit i1; rintro e w1 ⟨rfl, hb⟩; have HB := Lib.hid hb; clear hb)
        | (go_at_call 93; go_fit (i2 _ HB.out); rintro e w2 ⟨rfl, hb2⟩))
      exact bodyPost_ret (v := .tuple #[.int .i64 (P : Int), .int .i64 0]) (by simp [results, Try.results57, go_sem]) rfl ⟨rfl, HB.out.trans (hb2.mono HB.out.size)⟩
end Go.Proofs.Ytkdljhmenejckaa
