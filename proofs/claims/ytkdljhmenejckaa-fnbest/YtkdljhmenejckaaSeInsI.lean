/- slices.Insert on sessions. -/
import Derived.Test.YtkdljhmenejckaaSeUnbI
import Derived.Test.YtkdljhmenejckaaSeBindS
import Derived.Shelf.Spec.SlicesInsertGrow
namespace Go.Proofs.Ytkdljhmenejckaa
set_option linter.unusedSimpArgs false
set_option linter.unusedVariables false
open Go.RowKit Go.Joins

/-- copy(dst, src). -/
theorem run_copy9 (w : World) (ty g o dLen dCap src so sLen sCap m : Nat) (L cs : List Value) (hA : Arr w g 42 L) (hm : Nat.min sLen dLen = m) (hn : cs.length = m * 4) (hsrc : ∀ j u, cs[j]? = some u → w.cell? ⟨src, so + j, none⟩ = some u) (hfit : o + cs.length ≤ L.length) (h1 : ∀ u ∈ cs, u.oneCell' = true) :
    (Builtin.copy_ #[23, 23] ty #[.slice (some ⟨g, o, none⟩) dLen dCap, .slice (some ⟨src, so, none⟩) sLen sCap]).run Try.prog w = .ok (goInt m) (w.setRow g (L.take o ++ cs ++ L.drop (o + cs.length)).toArray) := by
  obtain ⟨i0, hi, hz0, hz1, hz2⟩ := info_parts info_sec
  have hl := run_loadCells_list (P := Try.prog) w ⟨src, so, none⟩ cs (fun j u hj => by
    rw [show (⟨src, so, none⟩ : Addr).add j = ⟨src, so + j, none⟩ by unfold Addr.add; split <;> simp_all]
    exact hsrc j u hj)
  have hst := run_storeCells_at Try.prog g o 42 cs 0 L.toArray w hA (by simpa using hfit) h1
  rw [hn] at hl
  simp [Builtin.copy_, run_underlying Try.underlying23, Builtin.lenOf, Builtin.firstCells, sizeOf, typeInfo, hi, hz1, hm, hl, hst]
theorem ins_list {A Y Z D : List Value} {a b : Nat} (hA : A.length = a) (hY : Y.length = b) (hfit : a + b + D.length ≤ (A ++ Z).length) :
    ∃ R, (((A ++ Z).take a ++ Y ++ (A ++ Z).drop (a + b)).take (a + b) ++ D ++ ((A ++ Z).take a ++ Y ++ (A ++ Z).drop (a + b)).drop (a + b + D.length)) = A ++ Y ++ D ++ R ∧ (A ++ Y ++ D ++ R).length = (A ++ Z).length := by
  have e1 : (A ++ Z).take a = A := by rw [List.take_append_of_le_length (by omega), List.take_of_length_le (by omega)]
  rw [e1]
  have hl : (A ++ Y).length = a + b := by rw [List.length_append, hA, hY]
  have e2 : (A ++ Y ++ (A ++ Z).drop (a + b)).take (a + b) = A ++ Y := by rw [List.take_append_of_le_length (by omega), List.take_of_length_le (by omega)]
  rw [e2]
  refine ⟨_, rfl, ?_⟩
  simp only [List.length_append, List.length_drop] at *
  omega
set_option maxRecDepth 100000 in
set_option maxHeartbeats 4000000 in
theorem impl_insert_mid (xs : List SeL) (y : SeL) (n P g vb B : Nat) (w : World) (hx : xs.length = n) (hn : n ≤ 5) (hP : P < n) (hO : OwnC seC w B 42 4 (.slice (some ⟨g, 0, none⟩) n n) xs) (hY : Arr w vb 42 (seC y)) :
    Calls Try.prog 59 #[.slice (some ⟨g, 0, none⟩) n n, .int .i64 (P : Int), .slice (some ⟨vb, 0, none⟩) 1 1] w fun e w' =>
      (∃ G, e = .returned (.slice (some ⟨w.heap.size, 0, none⟩) (n + 1) G) ∧ OwnC seC w' w.heap.size 42 4 (.slice (some ⟨w.heap.size, 0, none⟩) (n + 1) G) ((xs.take P ++ [y]) ++ xs.drop P)) ∧ Below w.heap.size w w' := by
  obtain ⟨i0, hi, hz0, hz1, hz2⟩ := info_parts info_sec
  obtain ⟨hS, -, -, -⟩ := own_full9 hO
  have hgw : g < w.heap.size := arr9_lt hS
  have hvw : vb < w.heap.size := arr9_lt hY
  have hAl : ((xs.take P).flatMap seC).length = P * 4 := by rw [flat_len9, List.length_take, hx]; omega
  have hDl : ((xs.drop P).flatMap seC).length = (n - P) * 4 := by rw [flat_len9, List.length_drop, hx]
  have hold : (Builtin.firstCells i0.size P (.slice (some ⟨g, 0, none⟩) P n)).run Try.prog w.drew = .ok ((xs.take P).flatMap seC).toArray w.drew := by
    rw [hz1]
    exact run_firstCells_some w.drew 4 P ⟨g, 0, none⟩ P n _ hAl (fun j u hj => by
      rw [show (⟨g, 0, none⟩ : Addr).add j = ⟨g, 0 + j, none⟩ by unfold Addr.add; split <;> simp_all, Nat.zero_add]
      show w.cell? _ = _
      rw [hS.cell]
      rw [← flat_take9, List.getElem?_take] at hj
      split at hj
      · exact hj
      · cases hj)
  have hk : P + (n + 1 - P) = n + 1 := by omega
  have hkk : (n : Int) + 1 - (P : Int) = ((n + 1 - P : Nat) : Int) := by omega
  obtain ⟨G, hG⟩ : ∃ G, grownCap w (n + 1) n 42 = G := ⟨_, rfl⟩
  have hGn : n + 1 ≤ G := by rw [← hG]; exact grownCap_ge w _ _ _
  have hGm : G ≤ maxLen := by rw [← hG]; exact grownCap_le_maxLen w (n + 1) n 42 (by unfold maxLen; omega)
  obtain ⟨Z, hZ⟩ : ∃ Z : List Value, (Builtin.zeroCells (Value.agg #[.string ⟨#[]⟩, .bool false, .int .i64 0, .string ⟨#[]⟩]).cells (n + 1 - P)).toList ++ (Builtin.zeroCells (Value.agg #[.string ⟨#[]⟩, .bool false, .int .i64 0, .string ⟨#[]⟩]).cells (G - (n + 1))).toList = Z := ⟨_, rfl⟩
  have hZl : Z.length = (G - P) * 4 := by
    rw [← hZ]
    have e : ∀ k, (Builtin.zeroCells (Value.agg #[.string ⟨#[]⟩, .bool false, .int .i64 0, .string ⟨#[]⟩]).cells k).toList.length = k * 4 := fun k => by
      simp [Builtin.zeroCells, Value.cells]
    rw [List.length_append, e, e]
    omega
  have hrz : ∀ ty, (Builtin.append_ #[23, 3] ty #[.slice (some ⟨g, 0, none⟩) P n, .int .i64 ((n : Int) + 1 - (P : Int))]).run Try.prog w =
      .ok (.slice (some ⟨w.heap.size, 0, none⟩) (n + 1) G) (w.drew.alloc (.cells ((xs.take P).flatMap seC ++ Z).toArray 42)) := fun ty => by
    have h := Lib.run_append_grow_zeros (P := Try.prog) w 23 3 ty 42 i0 _ .i64 .i64 Try.underlying23 Try.underlying3 hi hz0 (some ⟨g, 0, none⟩) P n ((xs.take P).flatMap seC) hold (n + 1 - P) (by omega) (by omega) (by omega) (by omega) (by rw [hz2]; omega) (by rw [hz2, hk]; exact growslice_fits (by omega) (by omega))
    rw [hk, hG] at h
    rw [hkk, h, ← hZ]
    congr 3
    apply Array.ext'
    simp
  have hAZ : ((xs.take P).flatMap seC ++ Z).length = G * 4 := by rw [List.length_append, hAl, hZl]; omega
  obtain ⟨A, hAe⟩ : ∃ A, (xs.take P).flatMap seC = A := ⟨_, rfl⟩
  obtain ⟨D, hDe⟩ : ∃ D, (xs.drop P).flatMap seC = D := ⟨_, rfl⟩
  have hD4 : ∀ j u, D[j]? = some u → (xs.flatMap seC)[P * 4 + j]? = some u := fun j u hj => by
    rw [← hDe, ← flat_drop9, List.getElem?_drop] at hj
    exact hj
  have hone : ∀ u ∈ D, u.oneCell' = true := by rw [← hDe]; exact one_all9 _
  have honeY : ∀ u ∈ seC y, u.oneCell' = true := fun u hu => one_all9 [y] u (by simpa using hu)
  have hYl := seC_len y
  rw [hAe] at hAl hAZ hrz
  rw [hDe] at hDl
  obtain ⟨R, hR, hRl⟩ := ins_list (A := A) (Y := seC y) (Z := Z) (D := D) hAl hYl (by rw [hAZ, hDl]; omega)
  have hY1 : (A ++ Z).take (P * 4) ++ seC y ++ (A ++ Z).drop (P * 4 + 4) = (A ++ Z).take (P * 4) ++ seC y ++ (A ++ Z).drop (P * 4 + (seC y).length) := by rw [hYl]
  obtain ⟨L0, hL0⟩ : ∃ L0, A ++ Z = L0 := ⟨_, rfl⟩
  rw [hL0] at hrz hAZ hR hRl hY1
  obtain ⟨L1, hL1⟩ : ∃ L1, L0.take (P * 4) ++ seC y ++ L0.drop (P * 4 + 4) = L1 := ⟨_, rfl⟩
  rw [hL1] at hR
  have hL1l : L1.length = G * 4 := by rw [← hL1]; simp only [List.length_append, List.length_take, List.length_drop, hYl, hAZ]; omega
  have hcpA : ∀ W : World, Arr W w.heap.size 42 L0 → Arr W vb 42 (seC y) → ∀ ty dc sc, (Builtin.copy_ #[23, 23] ty #[.slice (some ⟨w.heap.size, P * 4, none⟩) (n + 1 - P) dc, .slice (some ⟨vb, 0, none⟩) 1 sc]).run Try.prog W = .ok (goInt 1) (W.setRow w.heap.size L1.toArray) := fun W h1 h2 ty dc sc => by
    have h := run_copy9 W ty w.heap.size (P * 4) (n + 1 - P) dc vb 0 1 sc 1 L0 (seC y) h1 (by simp only [Nat.min_def]; split <;> omega) hYl (fun j u hj => by rw [Nat.zero_add, h2.cell]; exact hj) (by rw [hYl, hAZ]; omega) honeY
    rw [← hY1, hL1] at h
    exact h
  have hcpB : ∀ W : World, Arr W w.heap.size 42 L1 → Arr W g 42 (xs.flatMap seC) → ∀ ty dc sc, (Builtin.copy_ #[23, 23] ty #[.slice (some ⟨w.heap.size, (P + 1) * 4, none⟩) (n - P) dc, .slice (some ⟨g, P * 4, none⟩) (n - P) sc]).run Try.prog W = .ok (goInt ((n - P : Nat) : Int)) (W.setRow w.heap.size (A ++ seC y ++ D ++ R).toArray) := fun W h1 h2 ty dc sc => by
    have h := run_copy9 W ty w.heap.size ((P + 1) * 4) (n - P) dc g (P * 4) (n - P) sc (n - P) L1 D h1 (by simp) hDl (fun j u hj => by rw [h2.cell]; exact hD4 j u hj) (by rw [hDl, hL1l]; omega) hone
    rw [show (P + 1) * 4 = P * 4 + 4 by omega, hR] at h
    rw [show (P + 1) * 4 = P * 4 + 4 by omega]
    exact h
  have HFIN : Hid (∀ W : World, Arr W w.heap.size 42 (A ++ seC y ++ D ++ R) → OwnC seC W w.heap.size 42 4 (.slice (some ⟨w.heap.size, 0, none⟩) (n + 1) G) ((xs.take P ++ [y]) ++ xs.drop P)) := Lib.hid (fun W hA => by
    have hlen : ((xs.take P ++ [y]) ++ xs.drop P).length = n + 1 := by simp only [List.length_append, List.length_take, List.length_drop, List.length_cons, List.length_nil, hx]; omega
    have hfl : ((xs.take P ++ [y]) ++ xs.drop P).flatMap seC = A ++ seC y ++ D := by rw [List.flatMap_append, List.flatMap_append, hAe, hDe]; simp
    refine ⟨by rw [flat_len9], .inr ⟨w.heap.size, G, (A ++ seC y ++ D ++ R).toArray, by rw [hlen], Nat.le_refl _, hA, by rw [hlen]; exact hGn, hGm, by rw [List.size_toArray, hRl, hAZ], ?_⟩⟩
    rw [hlen, hfl]
    show (A ++ seC y ++ D ++ R).take ((n + 1) * 4) = _
    have hl : (A ++ seC y ++ D).length = (n + 1) * 4 := by rw [← hfl, flat_len9, hlen]
    rw [List.take_append_of_le_length (by omega), List.take_of_length_le (by omega)])
  have hb1 : Below w.heap.size w (w.drew.alloc (.cells L0.toArray 42)) := (Below.refl w.heap.size w).drew.alloc (Nat.le_refl _) _
  have hA1 : Arr (w.drew.alloc (.cells L0.toArray 42)) w.heap.size 42 L0 := Arr.fresh w.drew 42 L0
  have hS1 := arr9_on hS hb1
  have hY2 := arr9_on hY hb1
  obtain ⟨W1, hW1⟩ : ∃ W1, w.drew.alloc (.cells L0.toArray 42) = W1 := ⟨_, rfl⟩
  rw [hW1] at hrz hb1 hA1 hS1 hY2
  clear hW1
  have hcA := fun ty dc sc => hcpA W1 hA1 hY2 ty dc sc
  have hA2 : Arr (W1.setRow w.heap.size L1.toArray) w.heap.size 42 L1 := hA1.row _
  have hS2 : Arr (W1.setRow w.heap.size L1.toArray) g 42 (xs.flatMap seC) := (setRow_other W1 w.heap.size g _ (by omega)).trans hS1
  have hb2 : Below w.heap.size w (W1.setRow w.heap.size L1.toArray) := hb1.grown (grown_setRow W1 w.heap.size L1) hb1.size (fun k hk => by injection hk with hk; omega)
  obtain ⟨W2, hW2⟩ : ∃ W2, W1.setRow w.heap.size L1.toArray = W2 := ⟨_, rfl⟩
  rw [hW2] at hcA hA2 hS2 hb2
  clear hW2
  have hcB := fun ty dc sc => hcpB W2.drew (arr9_on hA2 (Below.refl _ _).drew) (arr9_on hS2 (Below.refl _ _).drew) ty dc sc
  have hA3 : Arr (W2.drew.setRow w.heap.size (A ++ seC y ++ D ++ R).toArray) w.heap.size 42 (A ++ seC y ++ D ++ R) := Arr.row (arr9_on hA2 (Below.refl _ _).drew) _
  have hb3 : Below w.heap.size w (W2.drew.setRow w.heap.size (A ++ seC y ++ D ++ R).toArray) := hb2.drew.grown (grown_setRow W2.drew w.heap.size _) hb2.drew.size (fun k hk => by injection hk with hk; omega)
  obtain ⟨W3, hW3⟩ : ∃ W3, W2.drew.setRow w.heap.size (A ++ seC y ++ D ++ R).toArray = W3 := ⟨_, rfl⟩
  rw [hW3] at hcB hA3 hb3
  have HO3 := Lib.hid (HFIN.out _ hA3)
  have HB3 := Lib.hid hb3
  clear hW3 hA3 hb3 hA2 hS2 hb2 hA1 hS1 hY2 hb1 hcpA hcpB HFIN
  have q1 : (0 : Int) ≤ (P : Int) := by omega
  have q2 : (P : Int) ≤ (n : Int) := by omega
  have q3 : ¬ ((P : Int) = (n : Int)) := by omega
  have q4 : (n : Int) < (n : Int) + 1 := by omega
  have q5 : (P : Int) + 1 ≤ (n : Int) + 1 := by omega
  have q6 : (0 : Int) ≤ (P : Int) + 1 := by omega
  have q7 : (P : Int) ≤ (n : Int) + 1 := by omega
  have q8 : ¬ (n = P) := by omega
  have q9 : ¬ (G = P) := by omega
  have q10 : ¬ (G = P + 1) := by omega
  have q11 : (n : Int) + 1 ≤ (G : Int) := by omega
  have q12 : (P : Int) ≤ (G : Int) := by omega
  have hw1 : IntKind.i64.wrap ((P : Int) + 1) = (P : Int) + 1 := IntWalk.i64_in _ (by omega)
  have hw2 : IntKind.i64.wrap ((n : Int) + 1) = (n : Int) + 1 := IntWalk.i64_in _ (by omega)
  have hw3 : IntKind.i64.wrap ((n : Int) + 1 - (P : Int)) = (n : Int) + 1 - (P : Int) := IntWalk.i64_in _ (by omega)
  have htn : ((P : Int) + 1).toNat = P + 1 := by omega
  have hg2 : g ≠ w.heap.size := by omega
  have hv2 : vb ≠ w.heap.size := by omega
  have mixed : Try.prog.follows Departure.mixedOrders = true := by kernel_rfl
  obtain ⟨Rr, hRr⟩ : ∃ Rr, (xs.take P ++ [y]) ++ xs.drop P = Rr := ⟨_, rfl⟩
  rw [hRr] at HO3 ⊢
  clear hold hk hkk hG hZ hZl hAl hDl hAe hDe hD4 hone honeY hYl hR hRl hY1 hL0 hL1 hO hS hY hx hAZ hL1l hRr hi hz0 hz1 hz2
  go_enter Try.func59, Try.ntmps59
  go_wp2_with (first
    | (at_builtin; refine Lib.wpList_append_run _ rfl _ _ _ _ rfl _ _ rfl rfl _ _ (hrz _) ?_)
    | (at_builtin; refine wpList_copy_runI _ rfl _ _ 23 23 rfl _ _ rfl rfl (hcA _ _ _) ?_))
  go_region_law_o (refine step_copy_runI rfl _ _ 23 23 rfl (.slice (some ⟨w.heap.size, (P + 1) * 4, none⟩) (n - P) (G - (P + 1))) (.slice (some ⟨g, P * 4, none⟩) (n - P) (n - P)) (by simp [Act.eval, Act.put]) (by simp [Act.eval, Act.put]) (hcB 3 (G - (P + 1)) (n - P)) ?_)
  go_wp2
  go_ret
  exact ⟨⟨G, rfl, HO3.out⟩, HB3.out⟩
end Go.Proofs.Ytkdljhmenejckaa
