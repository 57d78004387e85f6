/- Several parts in one text: SeInsI, SeBindI, SeWithP, DrawBase, EdgeBase, PickDraws, SeDraw1, SeDraw2, SeDrawB, SeStrs, SeAny, SeBestM, SeSel, SeBest, SeBestS, SeFnBest. -/
import Derived.Test.YtkdljhmenejckaaSeUnbI
import Derived.Test.YtkdljhmenejckaaSeBindS
import Derived.Shelf.Spec.SlicesInsertGrow
import Derived.Test.YtkdljhmenejckaaSeWithS
import Derived.Test.YtkdljhmenejckaaChecked
import Derived.Test.YtkdljhmenejckaaMath
import Derived.Deep.QuietTactic
import Derived.BigQuiet
import Derived.RegionTactic
import Derived.IntWalk
import Derived.Test.YtkdljhmenejckaaJidCells
import Derived.Test.YtkdljhmenejckaaSeLwS
import Derived.Test.YtkdljhmenejckaaSmJoin
import Derived.Test.YtkdljhmenejckaaHandQ
import Derived.Test.YtkdljhmenejckaaSeRow
import Derived.Test.YtkdljhmenejckaaSeCopy
import Derived.Test.YtkdljhmenejckaaSeRightS
import Derived.Test.YtkdljhmenejckaaRwStr
import Derived.Test.YtkdljhmenejckaaSeLw
import Derived.WalkSmall
namespace Go.Proofs.Ytkdljhmenejckaa
set_option linter.unusedSimpArgs false
set_option linter.unusedVariables false
open Go.RowKit Go.Joins

/-- copy(dst, src). -/
theorem run_copy9 (w : World) (ty g o dLen dCap src so sLen sCap m : Nat) (L cs : List Value) (hA : Arr w g 42 L) (hm : Nat.min sLen dLen = m) (hn : cs.length = m * 4) (hsrc : ∀ j u, cs[j]? = some u → w.cell? ⟨src, so + j, none⟩ = some u) (hfit : o + cs.length ≤ L.length) (h1 : ∀ u ∈ cs, u.oneCell' = true) :
    (Builtin.copy_ #[23, 23] ty #[.slice (some ⟨g, o, none⟩) dLen dCap, .slice (some ⟨src, so, none⟩) sLen sCap]).run Try.prog w = .ok (goInt m) (w.setRow g (L.take o ++ cs ++ L.drop (o + cs.length)).toArray) := by
  obtain ⟨i0, hi, hz0, hz1, hz2⟩ := info_parts info_sec
  have hl := run_loadCells_list (P := Try.prog) w ⟨src, so, none⟩ cs (fun j u hj => by
    rw [show (⟨src, so, none⟩ : Addr).add j = ⟨src, so + j, none⟩ by unfold Addr.add; split <;> simp_all]
    exact hsrc j u hj)
  have hst := run_storeCells_at Try.prog g o 42 cs 0 L.toArray w hA (by simpa using hfit) h1
  rw [hn] at hl
  simp [Builtin.copy_, run_underlying Try.underlying23, Builtin.lenOf, Builtin.firstCells, sizeOf, typeInfo, hi, hz1, hm, hl, hst]
theorem ins_list {A Y Z D : List Value} {a b : Nat} (hA : A.length = a) (hY : Y.length = b) (hfit : a + b + D.length ≤ (A ++ Z).length) :
    ∃ R, (((A ++ Z).take a ++ Y ++ (A ++ Z).drop (a + b)).take (a + b) ++ D ++ ((A ++ Z).take a ++ Y ++ (A ++ Z).drop (a + b)).drop (a + b + D.length)) = A ++ Y ++ D ++ R ∧ (A ++ Y ++ D ++ R).length = (A ++ Z).length := by
  have e1 : (A ++ Z).take a = A := by rw [List.take_append_of_le_length (by omega), List.take_of_length_le (by omega)]
  rw [e1]
  have hl : (A ++ Y).length = a + b := by rw [List.length_append, hA, hY]
  have e2 : (A ++ Y ++ (A ++ Z).drop (a + b)).take (a + b) = A ++ Y := by rw [List.take_append_of_le_length (by omega), List.take_of_length_le (by omega)]
  rw [e2]
  refine ⟨_, rfl, ?_⟩
  simp only [List.length_append, List.length_drop] at *
  omega
set_option maxRecDepth 100000 in
set_option maxHeartbeats 4000000 in
theorem impl_insert_mid (xs : List SeL) (y : SeL) (n P g vb B : Nat) (w : World) (hx : xs.length = n) (hn : n ≤ 5) (hP : P < n) (hO : OwnC seC w B 42 4 (.slice (some ⟨g, 0, none⟩) n n) xs) (hY : Arr w vb 42 (seC y)) :
    Calls Try.prog 59 #[.slice (some ⟨g, 0, none⟩) n n, .int .i64 (P : Int), .slice (some ⟨vb, 0, none⟩) 1 1] w fun e w' =>
      (∃ G, e = .returned (.slice (some ⟨w.heap.size, 0, none⟩) (n + 1) G) ∧ OwnC seC w' w.heap.size 42 4 (.slice (some ⟨w.heap.size, 0, none⟩) (n + 1) G) ((xs.take P ++ [y]) ++ xs.drop P)) ∧ Below w.heap.size w w' := by
  obtain ⟨i0, hi, hz0, hz1, hz2⟩ := info_parts info_sec
  obtain ⟨hS, -, -, -⟩ := own_full9 hO
  have hgw : g < w.heap.size := arr9_lt hS
  have hvw : vb < w.heap.size := arr9_lt hY
  have hAl : ((xs.take P).flatMap seC).length = P * 4 := by rw [flat_len9, List.length_take, hx]; omega
  have hDl : ((xs.drop P).flatMap seC).length = (n - P) * 4 := by rw [flat_len9, List.length_drop, hx]
  have hold : (Builtin.firstCells i0.size P (.slice (some ⟨g, 0, none⟩) P n)).run Try.prog w.drew = .ok ((xs.take P).flatMap seC).toArray w.drew := by
    rw [hz1]
    exact run_firstCells_some w.drew 4 P ⟨g, 0, none⟩ P n _ hAl (fun j u hj => by
      rw [show (⟨g, 0, none⟩ : Addr).add j = ⟨g, 0 + j, none⟩ by unfold Addr.add; split <;> simp_all, Nat.zero_add]
      show w.cell? _ = _
      rw [hS.cell]
      rw [← flat_take9, List.getElem?_take] at hj
      split at hj
      · exact hj
      · cases hj)
  have hk : P + (n + 1 - P) = n + 1 := by omega
  have hkk : (n : Int) + 1 - (P : Int) = ((n + 1 - P : Nat) : Int) := by omega
  obtain ⟨G, hG⟩ : ∃ G, grownCap w (n + 1) n 42 = G := ⟨_, rfl⟩
  have hGn : n + 1 ≤ G := by rw [← hG]; exact grownCap_ge w _ _ _
  have hGm : G ≤ maxLen := by rw [← hG]; exact grownCap_le_maxLen w (n + 1) n 42 (by unfold maxLen; omega)
  obtain ⟨Z, hZ⟩ : ∃ Z : List Value, (Builtin.zeroCells (Value.agg #[.string ⟨#[]⟩, .bool false, .int .i64 0, .string ⟨#[]⟩]).cells (n + 1 - P)).toList ++ (Builtin.zeroCells (Value.agg #[.string ⟨#[]⟩, .bool false, .int .i64 0, .string ⟨#[]⟩]).cells (G - (n + 1))).toList = Z := ⟨_, rfl⟩
  have hZl : Z.length = (G - P) * 4 := by
    rw [← hZ]
    have e : ∀ k, (Builtin.zeroCells (Value.agg #[.string ⟨#[]⟩, .bool false, .int .i64 0, .string ⟨#[]⟩]).cells k).toList.length = k * 4 := fun k => by
      simp [Builtin.zeroCells, Value.cells]
    rw [List.length_append, e, e]
    omega
  have hrz : ∀ ty, (Builtin.append_ #[23, 3] ty #[.slice (some ⟨g, 0, none⟩) P n, .int .i64 ((n : Int) + 1 - (P : Int))]).run Try.prog w =
      .ok (.slice (some ⟨w.heap.size, 0, none⟩) (n + 1) G) (w.drew.alloc (.cells ((xs.take P).flatMap seC ++ Z).toArray 42)) := fun ty => by
    have h := Lib.run_append_grow_zeros (P := Try.prog) w 23 3 ty 42 i0 _ .i64 .i64 Try.underlying23 Try.underlying3 hi hz0 (some ⟨g, 0, none⟩) P n ((xs.take P).flatMap seC) hold (n + 1 - P) (by omega) (by omega) (by omega) (by omega) (by rw [hz2]; omega) (by rw [hz2, hk]; exact growslice_fits (by omega) (by omega))
    rw [hk, hG] at h
    rw [hkk, h, ← hZ]
    congr 3
    apply Array.ext'
    simp
  have hAZ : ((xs.take P).flatMap seC ++ Z).length = G * 4 := by rw [List.length_append, hAl, hZl]; omega
  obtain ⟨A, hAe⟩ : ∃ A, (xs.take P).flatMap seC = A := ⟨_, rfl⟩
  obtain ⟨D, hDe⟩ : ∃ D, (xs.drop P).flatMap seC = D := ⟨_, rfl⟩
  have hD4 : ∀ j u, D[j]? = some u → (xs.flatMap seC)[P * 4 + j]? = some u := fun j u hj => by
    rw [← hDe, ← flat_drop9, List.getElem?_drop] at hj
    exact hj
  have hone : ∀ u ∈ D, u.oneCell' = true := by rw [← hDe]; exact one_all9 _
  have honeY : ∀ u ∈ seC y, u.oneCell' = true := fun u hu => one_all9 [y] u (by simpa using hu)
  have hYl := seC_len y
  rw [hAe] at hAl hAZ hrz
  rw [hDe] at hDl
  obtain ⟨R, hR, hRl⟩ := ins_list (A := A) (Y := seC y) (Z := Z) (D := D) hAl hYl (by rw [hAZ, hDl]; omega)
  have hY1 : (A ++ Z).take (P * 4) ++ seC y ++ (A ++ Z).drop (P * 4 + 4) = (A ++ Z).take (P * 4) ++ seC y ++ (A ++ Z).drop (P * 4 + (seC y).length) := by rw [hYl]
  obtain ⟨L0, hL0⟩ : ∃ L0, A ++ Z = L0 := ⟨_, rfl⟩
  rw [hL0] at hrz hAZ hR hRl hY1
  obtain ⟨L1, hL1⟩ : ∃ L1, L0.take (P * 4) ++ seC y ++ L0.drop (P * 4 + 4) = L1 := ⟨_, rfl⟩
  rw [hL1] at hR
  have hL1l : L1.length = G * 4 := by rw [← hL1]; simp only [List.length_append, List.length_take, List.length_drop, hYl, hAZ]; omega
  have hcpA : ∀ W : World, Arr W w.heap.size 42 L0 → Arr W vb 42 (seC y) → ∀ ty dc sc, (Builtin.copy_ #[23, 23] ty #[.slice (some ⟨w.heap.size, P * 4, none⟩) (n + 1 - P) dc, .slice (some ⟨vb, 0, none⟩) 1 sc]).run Try.prog W = .ok (goInt 1) (W.setRow w.heap.size L1.toArray) := fun W h1 h2 ty dc sc => by
    have h := run_copy9 W ty w.heap.size (P * 4) (n + 1 - P) dc vb 0 1 sc 1 L0 (seC y) h1 (by simp only [Nat.min_def]; split <;> omega) hYl (fun j u hj => by rw [Nat.zero_add, h2.cell]; exact hj) (by rw [hYl, hAZ]; omega) honeY
    rw [← hY1, hL1] at h
    exact h
  have hcpB : ∀ W : World, Arr W w.heap.size 42 L1 → Arr W g 42 (xs.flatMap seC) → ∀ ty dc sc, (Builtin.copy_ #[23, 23] ty #[.slice (some ⟨w.heap.size, (P + 1) * 4, none⟩) (n - P) dc, .slice (some ⟨g, P * 4, none⟩) (n - P) sc]).run Try.prog W = .ok (goInt ((n - P : Nat) : Int)) (W.setRow w.heap.size (A ++ seC y ++ D ++ R).toArray) := fun W h1 h2 ty dc sc => by
    have h := run_copy9 W ty w.heap.size ((P + 1) * 4) (n - P) dc g (P * 4) (n - P) sc (n - P) L1 D h1 (by simp) hDl (fun j u hj => by rw [h2.cell]; exact hD4 j u hj) (by rw [hDl, hL1l]; omega) hone
    rw [show (P + 1) * 4 = P * 4 + 4 by omega, hR] at h
    rw [show (P + 1) * 4 = P * 4 + 4 by omega]
    exact h
  have HFIN : Hid (∀ W : World, Arr W w.heap.size 42 (A ++ seC y ++ D ++ R) → OwnC seC W w.heap.size 42 4 (.slice (some ⟨w.heap.size, 0, none⟩) (n + 1) G) ((xs.take P ++ [y]) ++ xs.drop P)) := Lib.hid (fun W hA => by
    have hlen : ((xs.take P ++ [y]) ++ xs.drop P).length = n + 1 := by simp only [List.length_append, List.length_take, List.length_drop, List.length_cons, List.length_nil, hx]; omega
    have hfl : ((xs.take P ++ [y]) ++ xs.drop P).flatMap seC = A ++ seC y ++ D := by rw [List.flatMap_append, List.flatMap_append, hAe, hDe]; simp
    refine ⟨by rw [flat_len9], .inr ⟨w.heap.size, G, (A ++ seC y ++ D ++ R).toArray, by rw [hlen], Nat.le_refl _, hA, by rw [hlen]; exact hGn, hGm, by rw [List.size_toArray, hRl, hAZ], ?_⟩⟩
    rw [hlen, hfl]
    show (A ++ seC y ++ D ++ R).take ((n + 1) * 4) = _
    have hl : (A ++ seC y ++ D).length = (n + 1) * 4 := by rw [← hfl, flat_len9, hlen]
    rw [List.take_append_of_le_length (by omega), List.take_of_length_le (by omega)])
  have hb1 : Below w.heap.size w (w.drew.alloc (.cells L0.toArray 42)) := (Below.refl w.heap.size w).drew.alloc (Nat.le_refl _) _
  have hA1 : Arr (w.drew.alloc (.cells L0.toArray 42)) w.heap.size 42 L0 := Arr.fresh w.drew 42 L0
  have hS1 := arr9_on hS hb1
  have hY2 := arr9_on hY hb1
  obtain ⟨W1, hW1⟩ : ∃ W1, w.drew.alloc (.cells L0.toArray 42) = W1 := ⟨_, rfl⟩
  rw [hW1] at hrz hb1 hA1 hS1 hY2
  clear hW1
  have hcA := fun ty dc sc => hcpA W1 hA1 hY2 ty dc sc
  have hA2 : Arr (W1.setRow w.heap.size L1.toArray) w.heap.size 42 L1 := hA1.row _
  have hS2 : Arr (W1.setRow w.heap.size L1.toArray) g 42 (xs.flatMap seC) := (setRow_other W1 w.heap.size g _ (by omega)).trans hS1
  have hb2 : Below w.heap.size w (W1.setRow w.heap.size L1.toArray) := hb1.grown (grown_setRow W1 w.heap.size L1) hb1.size (fun k hk => by injection hk with hk; omega)
  obtain ⟨W2, hW2⟩ : ∃ W2, W1.setRow w.heap.size L1.toArray = W2 := ⟨_, rfl⟩
  rw [hW2] at hcA hA2 hS2 hb2
  clear hW2
  have hcB := fun ty dc sc => hcpB W2.drew (arr9_on hA2 (Below.refl _ _).drew) (arr9_on hS2 (Below.refl _ _).drew) ty dc sc
  have hA3 : Arr (W2.drew.setRow w.heap.size (A ++ seC y ++ D ++ R).toArray) w.heap.size 42 (A ++ seC y ++ D ++ R) := Arr.row (arr9_on hA2 (Below.refl _ _).drew) _
  have hb3 : Below w.heap.size w (W2.drew.setRow w.heap.size (A ++ seC y ++ D ++ R).toArray) := hb2.drew.grown (grown_setRow W2.drew w.heap.size _) hb2.drew.size (fun k hk => by injection hk with hk; omega)
  obtain ⟨W3, hW3⟩ : ∃ W3, W2.drew.setRow w.heap.size (A ++ seC y ++ D ++ R).toArray = W3 := ⟨_, rfl⟩
  rw [hW3] at hcB hA3 hb3
  have HO3 := Lib.hid (HFIN.out _ hA3)
  have HB3 := Lib.hid hb3
  clear hW3 hA3 hb3 hA2 hS2 hb2 hA1 hS1 hY2 hb1 hcpA hcpB HFIN
  have q1 : (0 : Int) ≤ (P : Int) := by omega
  have q2 : (P : Int) ≤ (n : Int) := by omega
  have q3 : ¬ ((P : Int) = (n : Int)) := by omega
  have q4 : (n : Int) < (n : Int) + 1 := by omega
  have q5 : (P : Int) + 1 ≤ (n : Int) + 1 := by omega
  have q6 : (0 : Int) ≤ (P : Int) + 1 := by omega
  have q7 : (P : Int) ≤ (n : Int) + 1 := by omega
  have q8 : ¬ (n = P) := by omega
  have q9 : ¬ (G = P) := by omega
  have q10 : ¬ (G = P + 1) := by omega
  have q11 : (n : Int) + 1 ≤ (G : Int) := by omega
  have q12 : (P : Int) ≤ (G : Int) := by omega
  have hw1 : IntKind.i64.wrap ((P : Int) + 1) = (P : Int) + 1 := IntWalk.i64_in _ (by omega)
  have hw2 : IntKind.i64.wrap ((n : Int) + 1) = (n : Int) + 1 := IntWalk.i64_in _ (by omega)
  have hw3 : IntKind.i64.wrap ((n : Int) + 1 - (P : Int)) = (n : Int) + 1 - (P : Int) := IntWalk.i64_in _ (by omega)
  have htn : ((P : Int) + 1).toNat = P + 1 := by omega
  have hg2 : g ≠ w.heap.size := by omega
  have hv2 : vb ≠ w.heap.size := by omega
  have mixed : Try.prog.follows Departure.mixedOrders = true := by kernel_rfl
  obtain ⟨Rr, hRr⟩ : ∃ Rr, (xs.take P ++ [y]) ++ xs.drop P = Rr := ⟨_, rfl⟩
  rw [hRr] at HO3 ⊢
  clear hold hk hkk hG hZ hZl hAl hDl hAe hDe hD4 hone honeY hYl hR hRl hY1 hL0 hL1 hO hS hY hx hAZ hL1l hRr hi hz0 hz1 hz2
  go_enter Try.func59, Try.ntmps59
  go_wp2_with (first
    | (at_builtin; refine Lib.wpList_append_run _ rfl _ _ _ _ rfl _ _ rfl rfl _ _ (hrz _) ?_)
    | (at_builtin; refine wpList_copy_runI _ rfl _ _ 23 23 rfl _ _ rfl rfl (hcA _ _ _) ?_))
  go_region_law_o (refine step_copy_runI rfl _ _ 23 23 rfl (.slice (some ⟨w.heap.size, (P + 1) * 4, none⟩) (n - P) (G - (P + 1))) (.slice (some ⟨g, P * 4, none⟩) (n - P) (n - P)) (by simp [Act.eval, Act.put]) (by simp [Act.eval, Act.put]) (hcB 3 (G - (P + 1)) (n - P)) ?_)
  go_wp2
  go_ret
  exact ⟨⟨G, rfl, HO3.out⟩, HB3.out⟩
end Go.Proofs.Ytkdljhmenejckaa

namespace Go.Proofs.Ytkdljhmenejckaa
set_option linter.unusedSimpArgs false
set_option linter.unusedVariables false
open Go.RowKit Go.Joins

set_option maxRecDepth 100000 in
set_option maxHeartbeats 4000000 in
theorem impl_insert_end (xs : List SeL) (y : SeL) (n g vb B : Nat) (w : World) (hx : xs.length = n) (hn : n ≤ 5) (hO : OwnC seC w B 42 4 (.slice (some ⟨g, 0, none⟩) n n) xs) (hB : B ≤ w.heap.size) (hY : Arr w vb 42 (seC y)) :
    Calls Try.prog 59 #[.slice (some ⟨g, 0, none⟩) n n, .int .i64 (n : Int), .slice (some ⟨vb, 0, none⟩) 1 1] w fun e w' =>
      (∃ p k, e = .returned (.slice p (n + 1) k) ∧ OwnC seC w' B 42 4 (.slice p (n + 1) k) (xs ++ [y])) ∧ w.grownBy w' (some g) := by
  have HO := Lib.hid hO
  have HY := Lib.hid hY
  have HL : Hid (xs.length ≤ 1000000) := Lib.hid (by omega)
  have HM : Hid ((xs ++ [y]).length = n + 1) := Lib.hid (by simp [hx])
  have HBB := Lib.hid hB
  have q1 : (0 : Int) ≤ (n : Int) := by omega
  clear hO hY hx hB
  go_enter Try.func59, Try.ntmps59
  go_wp2_with (at_builtin; refine wpList_plain rfl fun K hK => ?_; refine wp_app_one9 _ _ rfl B _ xs rfl HO.out vb y rfl HY.out HL.out HBB.out ?_; intro v2 w2 hv2 hg2; obtain ⟨q2, k2, e2, -⟩ := hv2.row seC_len; rw [HM.out] at e2; subst e2; have HV2 := Lib.hid hv2; have HG2 : Hid (w.grownBy w2 (some g)) := Lib.hid hg2; clear hv2 hg2; refine hK _ _ ?_)
  go_ret
  exact ⟨⟨q2, k2, rfl, HV2.out⟩, HG2.out⟩
theorem impl_insert9 (xs : List SeL) (y : SeL) (n P g vb : Nat) (w : World) (hx : xs.length = n) (hn : n ≤ 5) (hP : P ≤ n) (hO : OwnC seC w g 42 4 (.slice (some ⟨g, 0, none⟩) n n) xs) (hY : Arr w vb 42 (seC y)) :
    Calls Try.prog 59 #[.slice (some ⟨g, 0, none⟩) n n, .int .i64 (P : Int), .slice (some ⟨vb, 0, none⟩) 1 1] w fun e w' =>
      (∃ p k, e = .returned (.slice p (n + 1) k) ∧ OwnC seC w' g 42 4 (.slice p (n + 1) k) ((xs.take P ++ [y]) ++ xs.drop P)) ∧ Below g w w' := by
  obtain ⟨hS, -, -, -⟩ := own_full9 hO
  have hgw : g < w.heap.size := arr9_lt hS
  rcases Nat.lt_or_ge P n with h | h
  · refine (impl_insert_mid xs y n P g vb g w hx hn h hO hY).mono ?_
    rintro e w' ⟨⟨G, rfl, h1⟩, h2⟩
    exact ⟨⟨_, G, rfl, h1.mono (Nat.le_of_lt hgw)⟩, h2.mono (Nat.le_of_lt hgw)⟩
  · obtain rfl : P = n := by omega
    refine (impl_insert_end xs y P g vb g w hx hn hO (Nat.le_of_lt hgw) hY).mono ?_
    rintro e w' ⟨⟨p, k, rfl, h1⟩, h2⟩
    refine ⟨⟨p, k, rfl, ?_⟩, (Below.refl g w).grown h2 (Nat.le_of_lt hgw) (fun k hk => by injection hk with hk; omega)⟩
    rw [List.take_of_length_le (by omega), List.drop_eq_nil_of_le (by omega), List.append_nil]
    exact h1
theorem at_badB {xs : List SeL} {r : ByteArray} (h : (atR xs r).2 ≠ 0) (h6 : (atR xs r).2 ≠ 6) : bindR xs r = illS (atR xs r).2 := by
  unfold atR at h h6 ⊢
  unfold bindR
  split
  · rfl
  · rename_i h1
    rw [if_neg h1] at h h6
    split
    · rename_i h2
      by_cases h3 : okB xs = false
      · rw [if_pos h3]
      · rw [if_neg h3] at h h6
        split at h
        · rename_i h4; rw [if_pos h4] at h6; exact absurd rfl h6
        · exact absurd rfl h
    · rename_i h2
      have h3 : ¬ okB xs = false := fun e => h2 (.inl e)
      rw [if_neg h3] at h h6
      split at h
      · rename_i h4; rw [if_pos h4] at h6; exact absurd rfl h6
      · exact absurd rfl h
theorem at_six {xs : List SeL} {r : ByteArray} (h : (atR xs r).2 = 6) : ¬ (400 < xs.length ∨ 20000 < r.size) ∧ okB xs = true ∧ ¬ hereB r xs = true ∧ (atR xs r).1 = (posS r xs : Int) := by
  unfold atR at h ⊢
  split at h
  · cases h
  · rename_i h1
    split at h
    · cases h
    · rename_i h2
      split at h
      · rename_i h3
        refine ⟨h1, by simpa using h2, by rw [h3]; decide, ?_⟩
        rw [if_neg h1, if_neg h2, if_pos h3]
      · cases h
set_option maxRecDepth 100000 in
set_option maxHeartbeats 4000000 in
theorem impl_bind (xs : List SeL) (r : ByteArray) (p : Option Addr) (c : Nat) (w : World) (hn : xs.length ≤ 1048576) (hr : r.size ≤ 1048576) (hw : ∀ x ∈ xs, x.r.size ≤ 1048576 ∧ x.s.size ≤ 1048576) (hR : RowC seC 4 w p xs) :
    Calls Try.prog 9 #[.slice p xs.length c, .string r] w fun e w' => SoIs w.heap.size (bindR xs r) e w' ∧ Below w.heap.size w w' := by
  have HR := Lib.hid (fun W (h : Below w.heap.size w W) => hR.on h)
  have i1 := fun W h => impl_at xs r p c W hn hr (fun x hx => by have := (hw x hx).1; unfold maxLen; omega) h
  have i2 := fun W => impl_res9 r W (by unfold maxLen; omega)
  have i3 := fun W h => impl_sescopy xs p c W hn hw h
  have i4 := fun W b hb => joined_at9 r W (by omega) b hb
  unfold SaysB at i2
  have HA0 : Hid (Arr (w.alloc (.cells #[.slice none 0 0, .int .i64 0] 27)) w.heap.size 27 [.slice none 0 0, .int .i64 0]) := Lib.hid (Arr.fresh w _ [.slice none 0 0, .int .i64 0])
  have HB0 : Hid (Below w.heap.size w (w.alloc (.cells #[.slice none 0 0, .int .i64 0] 27))) := Lib.hid ((Below.refl _ _).alloc (Nat.le_refl _) _)
  obtain ⟨K, hK⟩ : ∃ K, (atR xs r).1 = K := ⟨_, rfl⟩
  obtain ⟨C, hC⟩ : ∃ C, (atR xs r).2 = C := ⟨_, rfl⟩
  rw [hK, hC] at i1
  by_cases h0 : C = 0
  · subst h0
    obtain ⟨g1, g2, g3, g4⟩ := at_ok hC
    rw [bnd_there g1 (by rw [g2, here_res g2 g3]; simp) g3]
    clear hR hw hr hK hC i2 i3 i4 g1 g2 g3 g4
    go_enter Try.func9, Try.ntmps9
    go_wp2_with (first
      | (go_at_call 57; go_fit (i1 _ (HR.out _ HB0.out)); rintro e w1 ⟨rfl, hb⟩; have HA1 := Lib.hid (arr9_on HA0.out hb); have HB1 := Lib.hid (HB0.out.trans (hb.mono HB0.out.size)); clear hb; obtain ⟨⟨c0, c1⟩, f0, f1⟩ := arr9_two HA1.out))
    have hE : Arr _ w.heap.size 27 [.slice none 0 0, .int .i64 7] := ((HA1.out.put 0 (.slice none 0 0)).put 1 (.int .i64 7))
    exact bodyPost_ret (v := .agg #[.slice none 0 0, .int .i64 7]) (results_cell_row (P := Try.prog) Try.results9 _ _ w.heap.size 27 _ (0, 0) _ rfl hE Try.underlying27 rfl (by kernel_rfl)) rfl
      ⟨so_ill _ _ _, (HB1.out.setCell (p := ⟨w.heap.size, 0, none⟩) (Nat.le_refl _) _).setCell (p := ⟨w.heap.size, 1, none⟩) (Nat.le_refl _) _⟩
  by_cases h6 : C = 6
  rotate_left
  · have hw0 := at_badB (xs := xs) (r := r) (by rw [hC]; exact h0) (by rw [hC]; exact h6)
    rw [hC] at hw0
    rw [hw0]
    have q1 : (C == 0) = false := by simpa using h0
    have q2 : (C != 6) = true := by simpa using h6
    clear hR hw hr hK hC hw0 i2 i3 i4
    go_enter Try.func9, Try.ntmps9
    go_wp2_with (first
      | (go_at_call 57; go_fit (i1 _ (HR.out _ HB0.out)); rintro e w1 ⟨rfl, hb⟩; have HA1 := Lib.hid (arr9_on HA0.out hb); have HB1 := Lib.hid (HB0.out.trans (hb.mono HB0.out.size)); clear hb; obtain ⟨⟨c0, c1⟩, f0, f1⟩ := arr9_two HA1.out))
    have hE : Arr _ w.heap.size 27 [.slice none 0 0, .int .i64 C] := ((HA1.out.put 0 (.slice none 0 0)).put 1 (.int .i64 C))
    exact bodyPost_ret (v := .agg #[.slice none 0 0, .int .i64 C]) (results_cell_row (P := Try.prog) Try.results9 _ _ w.heap.size 27 _ (0, 0) _ rfl hE Try.underlying27 rfl (by kernel_rfl)) rfl
      ⟨so_ill _ _ _, (HB1.out.setCell (p := ⟨w.heap.size, 0, none⟩) (Nat.le_refl _) _).setCell (p := ⟨w.heap.size, 1, none⟩) (Nat.le_refl _) _⟩
  subst h6
  obtain ⟨g1, g2, g3, g4⟩ := at_six hC
  rw [hK] at g4
  subst g4
  by_cases hres : resB r = true
  rotate_left
  · rw [bnd_form g1 (.inr (by simpa using hres))]
    rw [show resB r = false by simpa using hres] at i2
    clear hR hw hr hK hC h0 i3 i4 g1 g2 g3 hres
    go_enter Try.func9, Try.ntmps9
    go_wp2_with (first
      | (go_at_call 57; go_fit (i1 _ (HR.out _ HB0.out)); rintro e w1 ⟨rfl, hb⟩; have HA1 := Lib.hid (arr9_on HA0.out hb); have HB1 := Lib.hid (HB0.out.trans (hb.mono HB0.out.size)); clear hb; obtain ⟨⟨c0, c1⟩, f0, f1⟩ := arr9_two HA1.out)
      | (go_at_call 58; go_fit (i2 _); rintro e0 w5 ⟨rfl, h5⟩; subst h5))
    have hE : Arr _ w.heap.size 27 [.slice none 0 0, .int .i64 1] := ((HA1.out.put 0 (.slice none 0 0)).put 1 (.int .i64 1))
    exact bodyPost_ret (v := .agg #[.slice none 0 0, .int .i64 1]) (results_cell_row (P := Try.prog) Try.results9 _ _ w.heap.size 27 _ (0, 0) _ rfl hE Try.underlying27 rfl (by kernel_rfl)) rfl
      ⟨so_ill _ _ _, (HB1.out.setCell (p := ⟨w.heap.size, 0, none⟩) (Nat.le_refl _) _).setCell (p := ⟨w.heap.size, 1, none⟩) (Nat.le_refl _) _⟩
  have hnf : ¬ (okB xs = false ∨ resB r = false) := by rw [g2, hres]; simp
  rw [hres] at i2
  obtain ⟨n, hxn⟩ : ∃ n, xs.length = n := ⟨_, rfl⟩
  have HN := Lib.hid hxn
  by_cases h5 : xs.length = 5
  · rw [bnd_full g1 hnf g3 h5]
    have q1 : ((xs.length : Nat) : Int) = 5 := by omega
    rw [h5] at i1 i3 ⊢
    clear hR hw hr hK hC h0 i3 i4 g1 g2 g3 hres hnf q1 h5 hxn
    go_enter Try.func9, Try.ntmps9
    go_wp2_with (first
      | (go_at_call 57; go_fit (i1 _ (HR.out _ HB0.out)); rintro e w1 ⟨rfl, hb⟩; have HA1 := Lib.hid (arr9_on HA0.out hb); have HB1 := Lib.hid (HB0.out.trans (hb.mono HB0.out.size)); clear hb; obtain ⟨⟨c0, c1⟩, f0, f1⟩ := arr9_two HA1.out)
      | (go_at_call 58; go_fit (i2 _); rintro e0 w5 ⟨rfl, h5⟩; subst h5))
    have hE : Arr _ w.heap.size 27 [.slice none 0 0, .int .i64 9] := ((HA1.out.put 0 (.slice none 0 0)).put 1 (.int .i64 9))
    exact bodyPost_ret (v := .agg #[.slice none 0 0, .int .i64 9]) (results_cell_row (P := Try.prog) Try.results9 _ _ w.heap.size 27 _ (0, 0) _ rfl hE Try.underlying27 rfl (by kernel_rfl)) rfl
      ⟨so_ill _ _ _, (HB1.out.setCell (p := ⟨w.heap.size, 0, none⟩) (Nat.le_refl _) _).setCell (p := ⟨w.heap.size, 1, none⟩) (Nat.le_refl _) _⟩
  rw [bnd_ok g1 hnf g3 h5]
  have h6 := (okB_iff.1 g2).1
  have hple := pos_le r xs
  obtain ⟨P, hP⟩ : ∃ P, posS r xs = P := ⟨_, rfl⟩
  rw [hP] at hple i1 ⊢
  have i5 := fun W g vb hO hY => impl_insert9 xs (newS r) n P g vb W hxn (by omega) (by omega) hO hY
  have HM : Hid (((xs.take P ++ [newS r]) ++ xs.drop P).length = n + 1) := Lib.hid (by simp only [List.length_append, List.length_take, List.length_drop, List.length_cons, List.length_nil]; omega)
  obtain ⟨R, hRR⟩ : ∃ R, (xs.take P ++ [newS r]) ++ xs.drop P = R := ⟨_, rfl⟩
  rw [hRR] at i5 HM ⊢
  obtain ⟨m5, hm5⟩ : ∃ m, n + 1 = m := ⟨_, rfl⟩
  rw [hm5] at i5 HM
  clear hm5
  rw [hxn] at i1 i3 h5 ⊢
  have q1 : ¬ ((n : Int) = 5) := by omega
  clear hR hw hr hK hC h0 g1 g2 g3 hres hnf hP hRR hxn h6 hple
  go_enter Try.func9, Try.ntmps9
  go_wp2_with (first
    | (go_at_call 57; go_fit (i1 _ (HR.out _ HB0.out)); rintro e w1 ⟨rfl, hb⟩; have HA1 := Lib.hid (arr9_on HA0.out hb); have HB1 := Lib.hid (HB0.out.trans (hb.mono HB0.out.size)); clear hb)
    | (go_at_call 58; go_fit (i2 _); rintro e0 w5 ⟨rfl, h5⟩; subst h5)
    | (go_at_call 60; go_fit (i3 _ (HR.out _ HB1.out)); rintro e w3 ⟨⟨rfl, hv⟩, hb⟩; have HA3 := Lib.hid (arr9_on HA1.out hb); have HB3 := Lib.hid (HB1.out.trans (hb.mono HB1.out.size)); have HV3 := Lib.hid hv; have hl1 := arr9_lt HA1.out; clear hb hv)
    | (go_at_call 61; have _ := HV3; go_fit (i4 w3 w3.heap.size rfl); rintro e w4 ⟨rfl, hb⟩; have HA4 := Lib.hid (arr9_on HA3.out hb); have HB4 := Lib.hid (HB3.out.trans (hb.mono HB3.out.size)); have HV4 := Lib.hid (HV3.out.on hb); clear hb)
    | (go_at_call 59; have _ := HV4; go_fit (i5 _ w1.heap.size w4.heap.size (HV4.out.alloc _) (Arr.fresh w4 42 (seC (newS r)))); rintro e w6 ⟨⟨q6, k6, rfl, hv⟩, hb⟩; have HV6 := Lib.hid hv; have HA6 : Hid (Arr w6 w.heap.size 27 [.slice none 0 0, .int .i64 0]) := Lib.hid ((hb.block _ hl1).trans (arr9_on HA4.out ((Below.refl _ _).alloc (Nat.le_refl _) _))); have HB6 : Hid (Below w.heap.size w w6) := Lib.hid ((HB4.out.alloc HB4.out.size _).trans (hb.mono (Nat.le_of_lt hl1))); clear hv hb; obtain ⟨⟨c0, c1⟩, f0, f1⟩ := arr9_two HA6.out))
  have hv6 := HV6.out
  obtain rfl := HM.out
  obtain ⟨hE, hO2, hBl⟩ := pass9 (W2 := w) (R := ⟨R, 0⟩) HA6.out HB6.out (Nat.le_refl _) hl1 hv6
  exact bodyPost_ret (v := .agg #[.slice q6 R.length k6, .int .i64 0]) (results_cell_row (P := Try.prog) Try.results9 _ _ w.heap.size 27 _ (0, 0) _ rfl hE Try.underlying27 rfl (by kernel_rfl)) rfl
    ⟨⟨q6, k6, rfl, hO2⟩, hBl⟩
end Go.Proofs.Ytkdljhmenejckaa

namespace Go.Proofs.Ytkdljhmenejckaa
set_option linter.unusedSimpArgs false
set_option linter.unusedVariables false
open Go.RowKit Go.Joins

theorem pres_size {xs : List SeL} {r : ByteArray} {p : Int} {s : ByteArray} (h : 400 < xs.length ∨ 20000 < r.size ∨ 20000 < s.size) : presR xs r p s = illS 2 := by
  unfold presR
  by_cases h1 : 20000 < s.size
  · rw [if_pos h1]
  · rw [if_neg h1]
    unfold withR
    rw [if_pos (show 400 < xs.length ∨ 20000 < r.size by omega)]
theorem pres_form {xs : List SeL} {r : ByteArray} {p : Int} {s : ByteArray} (h : ¬ (400 < xs.length ∨ 20000 < r.size ∨ 20000 < s.size)) (h2 : okB xs = false) : presR xs r p s = illS 1 := by
  unfold presR
  rw [if_neg (by omega)]
  unfold withR
  rw [if_neg (show ¬ (400 < xs.length ∨ 20000 < r.size) by omega), if_pos h2]
theorem pres_none {xs : List SeL} {r : ByteArray} {p : Int} {s : ByteArray} (h : ¬ (400 < xs.length ∨ 20000 < r.size ∨ 20000 < s.size)) (h2 : okB xs = true) (h3 : hereB r xs = false) : presR xs r p s = illS 6 := by
  unfold presR
  rw [if_neg (by omega)]
  unfold withR
  rw [if_neg (show ¬ (400 < xs.length ∨ 20000 < r.size) by omega), if_neg (by rw [h2]; decide), if_pos h3]
theorem se_pres {r : ByteArray} {p : Int} {s : ByteArray} (h : resB r = true) : seB ⟨r, true, p, s⟩ = ((decide (-128 ≤ p) && decide (p ≤ 127)) && showB s) := by
  unfold seB
  dsimp only
  rw [h]
  simp
theorem pres_bad {xs : List SeL} {r : ByteArray} {p : Int} {s : ByteArray} (h : ¬ (400 < xs.length ∨ 20000 < r.size ∨ 20000 < s.size)) (h2 : okB xs = true) (h3 : hereB r xs = true) (h4 : ((decide (-128 ≤ p) && decide (p ≤ 127)) && showB s) = false) : presR xs r p s = illS 1 := by
  unfold presR
  rw [if_neg (by omega)]
  unfold withR
  rw [if_neg (show ¬ (400 < xs.length ∨ 20000 < r.size) by omega), if_neg (by rw [h2]; decide), if_neg (show ¬ hereB r xs = false by rw [h3]; decide), if_pos (by rw [se_pres (here_res h2 h3)]; exact h4)]
theorem pres_set {xs : List SeL} {r : ByteArray} {p : Int} {s : ByteArray} (h : ¬ (400 < xs.length ∨ 20000 < r.size ∨ 20000 < s.size)) (h2 : okB xs = true) (h3 : hereB r xs = true) (h4 : ((decide (-128 ≤ p) && decide (p ≤ 127)) && showB s) = true) : presR xs r p s = setR xs ⟨r, true, p, s⟩ := by
  unfold presR
  rw [if_neg (by omega)]
  exact set_with (show ¬ (400 < xs.length ∨ 20000 < r.size) by omega) h2 (fun _ => by rw [se_pres (here_res h2 h3)]; exact h4)
set_option maxRecDepth 100000 in
set_option maxHeartbeats 4000000 in
theorem spec_present (xs : List SeL) (r : ByteArray) (pr : Int) (s : ByteArray) (p : Option Addr) (c B0 : Nat) (w : World) (hn : xs.length ≤ 1048576) (hr : r.size ≤ 1048576) (hs : s.size ≤ 1048576) (hw : ∀ x ∈ xs, x.r.size ≤ 1048576 ∧ x.s.size ≤ 1048576) (hO : OwnC seC w B0 42 4 (.slice p xs.length c) xs) :
    Calls Try.prog 19 #[.slice p xs.length c, .string r, .int .i64 pr, .string s] w fun e w' => SoIs w.heap.size (presR xs r pr s) e w' ∧ Below w.heap.size w w' := by
  have HA0 : Hid (Arr (w.alloc (.cells #[.slice none 0 0, .int .i64 0] 27)) w.heap.size 27 [.slice none 0 0, .int .i64 0]) := Lib.hid (Arr.fresh w _ [.slice none 0 0, .int .i64 0])
  have HB0 : Hid (Below w.heap.size w (w.alloc (.cells #[.slice none 0 0, .int .i64 0] 27))) := Lib.hid ((Below.refl _ _).alloc (Nat.le_refl _) _)
  have HO := Lib.hid (fun W (h : Below w.heap.size w W) => hO.on h)
  have i0 := fun code W => spec_ill9 code W
  have i1 := fun W h => spec_seright xs p c W hn (fun x hx => by have := (hw x hx).1; unfold maxLen; omega) h
  have i2 := fun W (hk : okB xs = true) h => spec_at9 xs r p c W hn (okB_iff.1 hk).2.1 h
  have i3 := fun W => spec_is9 pr (-128) 127 W
  have i4 := fun W => spec_show9 s W
  have i5 := fun W (hk : okB xs = true) h => spec_set9 xs ⟨r, true, pr, s⟩ p c B0 W (okB_iff.1 hk).1 (okB_iff.1 hk).2.1 h
  obtain ⟨n, hxn⟩ : ∃ n, xs.length = n := ⟨_, rfl⟩
  by_cases h1 : 400 < xs.length ∨ 20000 < r.size ∨ 20000 < s.size
  · rw [pres_size h1]
    rw [hxn] at h1 hn ⊢
    clear hO hw i1 i2 i3 i4 i5 hxn
    by_cases h2 : 400 < n
    · clear h1
      go_enter Try.func19, Try.ntmps19
      go_wp2_with (first
        | (go_at_call 64; go_fit (i0 _ _); rintro e0 w9 ⟨rfl, hb⟩; have HA9 := Lib.hid (arr9_on HA0.out hb); have HB9 := Lib.hid (HB0.out.trans (hb.mono HB0.out.size)); clear hb; obtain ⟨⟨c0, c1⟩, k0, k1⟩ := arr9_two HA9.out))
      have hE : Arr _ w.heap.size 27 [.slice none 0 0, .int .i64 2] := ((HA9.out.put 0 (.slice none 0 0)).put 1 (.int .i64 2))
      exact bodyPost_ret (v := .agg #[.slice none 0 0, .int .i64 2]) (results_cell_row (P := Try.prog) Try.results19 _ _ w.heap.size 27 _ (0, 0) _ rfl hE Try.underlying27 rfl (by kernel_rfl)) rfl
        ⟨so_ill _ _ _, (HB9.out.setCell (p := ⟨w.heap.size, 0, none⟩) (Nat.le_refl _) _).setCell (p := ⟨w.heap.size, 1, none⟩) (Nat.le_refl _) _⟩
    · by_cases h3 : 20000 < r.size
      · clear h1
        go_enter Try.func19, Try.ntmps19
        go_wp2_with (first
          | (go_at_call 64; go_fit (i0 _ _); rintro e0 w9 ⟨rfl, hb⟩; have HA9 := Lib.hid (arr9_on HA0.out hb); have HB9 := Lib.hid (HB0.out.trans (hb.mono HB0.out.size)); clear hb; obtain ⟨⟨c0, c1⟩, k0, k1⟩ := arr9_two HA9.out))
        have hE : Arr _ w.heap.size 27 [.slice none 0 0, .int .i64 2] := ((HA9.out.put 0 (.slice none 0 0)).put 1 (.int .i64 2))
        exact bodyPost_ret (v := .agg #[.slice none 0 0, .int .i64 2]) (results_cell_row (P := Try.prog) Try.results19 _ _ w.heap.size 27 _ (0, 0) _ rfl hE Try.underlying27 rfl (by kernel_rfl)) rfl
          ⟨so_ill _ _ _, (HB9.out.setCell (p := ⟨w.heap.size, 0, none⟩) (Nat.le_refl _) _).setCell (p := ⟨w.heap.size, 1, none⟩) (Nat.le_refl _) _⟩
      · have h4 : 20000 < s.size := by omega
        clear h1
        go_enter Try.func19, Try.ntmps19
        go_wp2_with (first
          | (go_at_call 64; go_fit (i0 _ _); rintro e0 w9 ⟨rfl, hb⟩; have HA9 := Lib.hid (arr9_on HA0.out hb); have HB9 := Lib.hid (HB0.out.trans (hb.mono HB0.out.size)); clear hb; obtain ⟨⟨c0, c1⟩, k0, k1⟩ := arr9_two HA9.out))
        have hE : Arr _ w.heap.size 27 [.slice none 0 0, .int .i64 2] := ((HA9.out.put 0 (.slice none 0 0)).put 1 (.int .i64 2))
        exact bodyPost_ret (v := .agg #[.slice none 0 0, .int .i64 2]) (results_cell_row (P := Try.prog) Try.results19 _ _ w.heap.size 27 _ (0, 0) _ rfl hE Try.underlying27 rfl (by kernel_rfl)) rfl
          ⟨so_ill _ _ _, (HB9.out.setCell (p := ⟨w.heap.size, 0, none⟩) (Nat.le_refl _) _).setCell (p := ⟨w.heap.size, 1, none⟩) (Nat.le_refl _) _⟩
  have g1 : ¬ 400 < n := by omega
  have g2 : ¬ 20000 < r.size := by omega
  have g3 : ¬ 20000 < s.size := by omega
  by_cases h2 : okB xs = true
  · replace i2 := fun W h => i2 W h2 h
    replace i5 := fun W h => i5 W h2 h
    rw [h2] at i1
    unfold whereI at i2
    by_cases h3 : hereB r xs = true
    · rw [if_pos h3] at i2
      obtain ⟨P, hP⟩ : ∃ P, posS r xs = P := ⟨_, rfl⟩
      rw [hP] at i2
      have q1 : ¬ ((P : Int) < 0) := by omega
      obtain ⟨d, hd⟩ : ∃ b, (decide (-128 ≤ pr) && decide (pr ≤ 127)) = b := ⟨_, rfl⟩
      obtain ⟨f, hf⟩ : ∃ b, showB s = b := ⟨_, rfl⟩
      rw [hd] at i3
      rw [hf] at i4
      cases d
      · rw [pres_bad h1 h2 h3 (by rw [hd]; rfl)]
        rw [hxn] at hn i1 i2 HO ⊢
        clear hO hw hxn h1 h2 h3 hd hf hP i4 i5
        go_enter Try.func19, Try.ntmps19
        go_wp2_with (first
          | (go_at_call 28; go_fit (i1 _ (row_own9 (HO.out _ HB0.out))); rintro e0 w1 ⟨rfl, hb⟩; have HA1 := Lib.hid (arr9_on HA0.out hb); have HB1 := Lib.hid (HB0.out.trans (hb.mono HB0.out.size)); clear hb)
          | (go_at_call 66; go_fit (i2 _ (row_own9 (HO.out _ HB1.out))); rintro e0 w2 ⟨rfl, hb⟩; have HA2 := Lib.hid (arr9_on HA1.out hb); have HB2 := Lib.hid (HB1.out.trans (hb.mono HB1.out.size)); clear hb)
          | (go_at_call 68; go_fit (i3 _); rintro e0 wz ⟨rfl, hz⟩; subst hz)
          | (go_at_call 64; go_fit (i0 _ _); rintro e0 w9 ⟨rfl, hb⟩; have HA9 := Lib.hid (arr9_on HA2.out hb); have HB9 := Lib.hid (HB2.out.trans (hb.mono HB2.out.size)); clear hb; obtain ⟨⟨c0, c1⟩, k0, k1⟩ := arr9_two HA9.out))
        have hE : Arr _ w.heap.size 27 [.slice none 0 0, .int .i64 1] := ((HA9.out.put 0 (.slice none 0 0)).put 1 (.int .i64 1))
        exact bodyPost_ret (v := .agg #[.slice none 0 0, .int .i64 1]) (results_cell_row (P := Try.prog) Try.results19 _ _ w.heap.size 27 _ (0, 0) _ rfl hE Try.underlying27 rfl (by kernel_rfl)) rfl
          ⟨so_ill _ _ _, (HB9.out.setCell (p := ⟨w.heap.size, 0, none⟩) (Nat.le_refl _) _).setCell (p := ⟨w.heap.size, 1, none⟩) (Nat.le_refl _) _⟩
      · cases f
        · rw [pres_bad h1 h2 h3 (by rw [hd, hf]; rfl)]
          rw [hxn] at hn i1 i2 HO ⊢
          clear hO hw hxn h1 h2 h3 hd hf hP i5
          go_enter Try.func19, Try.ntmps19
          go_wp2_with (first
            | (go_at_call 28; go_fit (i1 _ (row_own9 (HO.out _ HB0.out))); rintro e0 w1 ⟨rfl, hb⟩; have HA1 := Lib.hid (arr9_on HA0.out hb); have HB1 := Lib.hid (HB0.out.trans (hb.mono HB0.out.size)); clear hb)
            | (go_at_call 66; go_fit (i2 _ (row_own9 (HO.out _ HB1.out))); rintro e0 w2 ⟨rfl, hb⟩; have HA2 := Lib.hid (arr9_on HA1.out hb); have HB2 := Lib.hid (HB1.out.trans (hb.mono HB1.out.size)); clear hb)
            | (go_at_call 68; go_fit (i3 _); rintro e0 wz ⟨rfl, hz⟩; subst hz)
            | (go_at_call 69; have _ := HA2; go_fit (i4 _); rintro e0 w4 ⟨rfl, hb⟩; have HA4 := Lib.hid (arr9_on HA2.out hb); have HB4 := Lib.hid (HB2.out.trans (hb.mono HB2.out.size)); clear hb)
            | (go_at_call 64; go_fit (i0 _ _); rintro e0 w9 ⟨rfl, hb⟩; have HA9 := Lib.hid (arr9_on HA4.out hb); have HB9 := Lib.hid (HB4.out.trans (hb.mono HB4.out.size)); clear hb; obtain ⟨⟨c0, c1⟩, k0, k1⟩ := arr9_two HA9.out))
          have hE : Arr _ w.heap.size 27 [.slice none 0 0, .int .i64 1] := ((HA9.out.put 0 (.slice none 0 0)).put 1 (.int .i64 1))
          exact bodyPost_ret (v := .agg #[.slice none 0 0, .int .i64 1]) (results_cell_row (P := Try.prog) Try.results19 _ _ w.heap.size 27 _ (0, 0) _ rfl hE Try.underlying27 rfl (by kernel_rfl)) rfl
            ⟨so_ill _ _ _, (HB9.out.setCell (p := ⟨w.heap.size, 0, none⟩) (Nat.le_refl _) _).setCell (p := ⟨w.heap.size, 1, none⟩) (Nat.le_refl _) _⟩
        · rw [pres_set h1 h2 h3 (by rw [hd, hf]; rfl)]
          obtain ⟨R, hRR⟩ : ∃ R, setR xs ⟨r, true, pr, s⟩ = R := ⟨_, rfl⟩
          rw [hRR] at i5 ⊢
          unfold seV at i5
          dsimp only at i5
          rw [hxn] at hn i1 i2 i5 HO ⊢
          clear hO hw hxn h1 h2 h3 hd hf hP hRR
          go_enter Try.func19, Try.ntmps19
          go_wp2_with (first
            | (go_at_call 28; go_fit (i1 _ (row_own9 (HO.out _ HB0.out))); rintro e0 w1 ⟨rfl, hb⟩; have HA1 := Lib.hid (arr9_on HA0.out hb); have HB1 := Lib.hid (HB0.out.trans (hb.mono HB0.out.size)); clear hb)
            | (go_at_call 66; go_fit (i2 _ (row_own9 (HO.out _ HB1.out))); rintro e0 w2 ⟨rfl, hb⟩; have HA2 := Lib.hid (arr9_on HA1.out hb); have HB2 := Lib.hid (HB1.out.trans (hb.mono HB1.out.size)); clear hb)
            | (go_at_call 68; go_fit (i3 _); rintro e0 wz ⟨rfl, hz⟩; subst hz)
            | (go_at_call 69; have _ := HA2; go_fit (i4 _); rintro e0 w4 ⟨rfl, hb⟩; have HA4 := Lib.hid (arr9_on HA2.out hb); have HB4 := Lib.hid (HB2.out.trans (hb.mono HB2.out.size)); clear hb)
            | (go_at_call 70; go_fit (i5 _ (HO.out _ HB4.out)); rintro e0 w5 ⟨⟨q, k, rfl, hv⟩, hb⟩; have HV := Lib.hid hv; have HA5 := Lib.hid (arr9_on HA4.out hb); have HB5 := Lib.hid (HB4.out.trans (hb.mono HB4.out.size)); have hlt := arr9_lt HA4.out; clear hb hv; obtain ⟨⟨c0, c1⟩, k0, k1⟩ := arr9_two HA5.out))
          obtain ⟨hE, hO2, hBl⟩ := pass9 (W2 := w) HA5.out HB5.out (Nat.le_refl _) hlt HV.out
          exact bodyPost_ret (v := .agg #[.slice q R.l.length k, .int .i64 R.c]) (results_cell_row (P := Try.prog) Try.results19 _ _ w.heap.size 27 _ (0, 0) _ rfl hE Try.underlying27 rfl (by kernel_rfl)) rfl
            ⟨⟨q, k, rfl, hO2⟩, hBl⟩
    · rw [if_neg h3] at i2
      rw [pres_none h1 h2 (by simpa using h3)]
      rw [hxn] at hn i1 i2 HO ⊢
      clear hO hw hxn h1 h2 h3 i3 i4 i5
      go_enter Try.func19, Try.ntmps19
      go_wp2_with (first
        | (go_at_call 28; go_fit (i1 _ (row_own9 (HO.out _ HB0.out))); rintro e0 w1 ⟨rfl, hb⟩; have HA1 := Lib.hid (arr9_on HA0.out hb); have HB1 := Lib.hid (HB0.out.trans (hb.mono HB0.out.size)); clear hb)
        | (go_at_call 66; go_fit (i2 _ (row_own9 (HO.out _ HB1.out))); rintro e0 w2 ⟨rfl, hb⟩; have HA2 := Lib.hid (arr9_on HA1.out hb); have HB2 := Lib.hid (HB1.out.trans (hb.mono HB1.out.size)); clear hb)
        | (go_at_call 64; go_fit (i0 _ _); rintro e0 w9 ⟨rfl, hb⟩; have HA9 := Lib.hid (arr9_on HA2.out hb); have HB9 := Lib.hid (HB2.out.trans (hb.mono HB2.out.size)); clear hb; obtain ⟨⟨c0, c1⟩, k0, k1⟩ := arr9_two HA9.out))
      have hE : Arr _ w.heap.size 27 [.slice none 0 0, .int .i64 6] := ((HA9.out.put 0 (.slice none 0 0)).put 1 (.int .i64 6))
      exact bodyPost_ret (v := .agg #[.slice none 0 0, .int .i64 6]) (results_cell_row (P := Try.prog) Try.results19 _ _ w.heap.size 27 _ (0, 0) _ rfl hE Try.underlying27 rfl (by kernel_rfl)) rfl
        ⟨so_ill _ _ _, (HB9.out.setCell (p := ⟨w.heap.size, 0, none⟩) (Nat.le_refl _) _).setCell (p := ⟨w.heap.size, 1, none⟩) (Nat.le_refl _) _⟩
  · rw [pres_form h1 (by simpa using h2)]
    rw [show okB xs = false by simpa using h2] at i1
    rw [hxn] at hn i1 HO ⊢
    clear hO hw i2 i3 i4 i5 hxn h1 h2
    go_enter Try.func19, Try.ntmps19
    go_wp2_with (first
      | (go_at_call 28; go_fit (i1 _ (row_own9 (HO.out _ HB0.out))); rintro e0 w1 ⟨rfl, hb⟩; have HA1 := Lib.hid (arr9_on HA0.out hb); have HB1 := Lib.hid (HB0.out.trans (hb.mono HB0.out.size)); clear hb)
      | (go_at_call 64; go_fit (i0 _ _); rintro e0 w9 ⟨rfl, hb⟩; have HA9 := Lib.hid (arr9_on HA1.out hb); have HB9 := Lib.hid (HB1.out.trans (hb.mono HB1.out.size)); clear hb; obtain ⟨⟨c0, c1⟩, k0, k1⟩ := arr9_two HA9.out))
    have hE : Arr _ w.heap.size 27 [.slice none 0 0, .int .i64 1] := ((HA9.out.put 0 (.slice none 0 0)).put 1 (.int .i64 1))
    exact bodyPost_ret (v := .agg #[.slice none 0 0, .int .i64 1]) (results_cell_row (P := Try.prog) Try.results19 _ _ w.heap.size 27 _ (0, 0) _ rfl hE Try.underlying27 rfl (by kernel_rfl)) rfl
      ⟨so_ill _ _ _, (HB9.out.setCell (p := ⟨w.heap.size, 0, none⟩) (Nat.le_refl _) _).setCell (p := ⟨w.heap.size, 1, none⟩) (Nat.le_refl _) _⟩
end Go.Proofs.Ytkdljhmenejckaa

namespace Go.Proofs.Ytkdljhmenejckaa
set_option linter.unusedSimpArgs false
set_option linter.unusedVariables false
open Go.RowKit

/-- The first len cells of a slice are bytes that lie below B. -/
def SrcRow (w : World) (B : Nat) (a : Option Addr) (len : Nat) : Prop :=
  ∀ k, k < len → ∃ (b off : Nat) (z : Int), a = some ⟨b, off, none⟩ ∧ b < B ∧ w.cell? ⟨b, off + k, none⟩ = some (.int .u8 z) ∧ 0 ≤ z ∧ z ≤ 255
theorem lt_of_cell {w : World} {b i : Nat} {v : Value} (h : w.cell? ⟨b, i, none⟩ = some v) : b < w.heap.size := by
  rcases Nat.lt_or_ge b w.heap.size with h1 | h1
  · exact h1
  · simp [World.cell?, Array.getElem?_eq_none h1] at h
theorem SrcRow.grown {w w' : World} {B g : Nat} {a : Option Addr} {len : Nat} (h : SrcRow w B a len) (hg : w.grownBy w' (some g)) (hB : B ≤ g) : SrcRow w' B a len := by
  intro k hk
  obtain ⟨b, off, z, ha, hb, hc, h0, h1⟩ := h k hk
  refine ⟨b, off, z, ha, hb, ?_, h0, h1⟩
  rw [World.cell?_of_block (w := w) (hg.block b (lt_of_cell hc) (by simp; omega))]
  exact hc
theorem grown_set {w w1 : World} {g : Nat} (h : w.grownBy w1 (some g)) (i : Nat) (v : Value) : w.grownBy (w1.setCell ⟨g, i, none⟩ v) (some g) :=
  ⟨h.os, h.tape, h.output, by simpa [World.setCell] using h.size, fun k hk hne => (Below.heap_setCell w1 ⟨g, i, none⟩ v k (fun e => hne (by simp at e; rw [e]))).trans (h.block k hk hne)⟩
theorem grown_drew {w w1 : World} {r : Option Nat} (h : w.grownBy w1 r) : w.grownBy w1.drew r := ⟨h.os, h.tape, h.output, h.size, h.block⟩
theorem grown_drewN {w w1 : World} {r : Option Nat} (h : w.grownBy w1 r) (n : Nat) : w.grownBy (w1.drewN n) r := ⟨h.os, h.tape, h.output, h.size, h.block⟩

/-- Block g (not below B) is a source over bytes that lie below B. -/
def Src (w : World) (B g : Nat) : Prop := B ≤ g ∧ ∃ (a : Option Addr) (len cap : Nat) (at_ mix size : Int),
  Arr w g 112 [.slice a len cap, .int .i64 at_, .int .u64 mix, .int .i64 size] ∧ 0 ≤ at_ ∧ at_ ≤ (len : Int) ∧ 0 ≤ mix ∧ mix ≤ 18446744073709551615 ∧ 0 ≤ size ∧ size ≤ 12 ∧ len ≤ 1048576 ∧
  SrcRow w B a len

/-- A call that draws: it answers some v of which P holds; only the source and what is new have turned. -/
def Drew (B g : Nat) (w : World) (P : Value → Prop) (e : Ending) (w' : World) : Prop := ∃ v, e = .returned v ∧ P v ∧ Src w' B g ∧ w.grownBy w' (some g)
def NumIn (most : Int) (v : Value) : Prop := ∃ r : Int, v = .int .i64 r ∧ 0 ≤ r ∧ (r < most ∨ r = 0)

theorem src_done {w w' : World} {B g : Nat} {P : Value → Prop} {v : Value} {a : Option Addr} {len cap : Nat} {at_ mix size : Int} (hP : P v) (hBg : B ≤ g)
    (hA : Arr w' g 112 [.slice a len cap, .int .i64 at_, .int .u64 mix, .int .i64 size]) (a0 : 0 ≤ at_) (a1 : at_ ≤ (len : Int)) (m0 : 0 ≤ mix) (m1 : mix ≤ 18446744073709551615) (s0 : 0 ≤ size) (s1 : size ≤ 12) (hl : len ≤ 1048576)
    (hr : SrcRow w B a len) (hg : w.grownBy w' (some g)) : Drew B g w P (.returned v) w' :=
  ⟨v, rfl, hP, ⟨hBg, a, len, cap, at_, mix, size, hA, a0, a1, m0, m1, s0, s1, hl, hr.grown hg hBg⟩, hg⟩
theorem rem_in {x most : Int} (_ : 0 ≤ x) (h1 : 1 < most) (hm : most ≤ 9223372036854775807) : 0 ≤ wrap64 (x % most) ∧ (wrap64 (x % most) < most ∨ wrap64 (x % most) = 0) := by
  have a := Int.emod_nonneg x (b := most) (by omega)
  have b := Int.emod_lt_of_pos x (b := most) (by omega)
  rw [IntWalk.wrap64_in _ ⟨by omega, by omega⟩]
  exact ⟨a, .inl b⟩
theorem bits_range {op : BinOp} {a b M : Int} (h : bits op IntKind.u64 a b = M) : 0 ≤ M ∧ M ≤ 18446744073709551615 := by
  have hw := wf_bits (k := .u64) op a b
  rw [h] at hw
  simpa [Lit.wf, IntKind.min, IntKind.max, IntKind.signed, IntKind.bits] using hw

set_option maxRecDepth 100000 in
set_option maxHeartbeats 2000000 in
theorem src_n (B g : Nat) (most : Int) (w : World) (hm : most ≤ 9223372036854775807) (hS : Src w B g) :
    Calls Try.prog 62 #[.pointer (some ⟨g, 0, none⟩), .int .i64 most] w (Drew B g w (NumIn most)) := by
  by_cases h1 : most ≤ 1
  · have HS := Lib.hid hS
    clear hS
    go_enter Try.func62, Try.ntmps62
    go_wp2
    go_ret
    exact ⟨_, rfl, ⟨0, rfl, by omega, .inr rfl⟩, HS.out, World.grownBy.refl w _⟩
  · obtain ⟨hBg, a, len, cap, at_, mix, size, hA, ha0, ha1, hx0, hx1, hz0, hz1, hlen, hrow⟩ := hS
    have k0 : w.cell? ⟨g, 0, none⟩ = some (.slice a len cap) := hA.cell 0
    have k1 : w.cell? ⟨g, 1, none⟩ = some (.int .i64 at_) := hA.cell 1
    have k2 : w.cell? ⟨g, 2, none⟩ = some (.int .u64 mix) := hA.cell 2
    have f1 : w.frozen? ⟨g, 1, none⟩ = false := hA.free 1
    have f2 : w.frozen? ⟨g, 2, none⟩ = false := hA.free 2
    have HA := Lib.hid hA
    have HR := Lib.hid hrow
    clear hA hrow
    obtain ⟨M1, hM1⟩ : ∃ M, bits BinOp.xor IntKind.u64 mix (IntKind.u64.wrap (mix * 8192)) = M := ⟨_, rfl⟩
    obtain ⟨b10, b11⟩ := bits_range hM1
    obtain ⟨M2, hM2⟩ : ∃ M, bits BinOp.xor IntKind.u64 M1 (M1 / 128) = M := ⟨_, rfl⟩
    obtain ⟨b20, b21⟩ := bits_range hM2
    obtain ⟨M3, hM3⟩ : ∃ M, bits BinOp.xor IntKind.u64 M2 (IntKind.u64.wrap (M2 * 131072)) = M := ⟨_, rfl⟩
    obtain ⟨b30, b31⟩ := bits_range hM3
    by_cases hend : at_ < (len : Int)
    · obtain ⟨A, rfl⟩ : ∃ A : Nat, at_ = A := ⟨at_.toNat, by omega⟩
      obtain ⟨b, off, z, rfl, hb, hcz, hz00, hz11⟩ := HR.out A (by omega)
      have hbg : b ≠ g := by omega
      have f1 : w.frozen? ⟨g, 1, none⟩ = false := f1
      have kk : ∀ n, ((w.drewN n).setCell ⟨g, 1, none⟩ (.int .i64 ((A : Int) + 1))).cell? ⟨g, 2, none⟩ = some (.int .u64 mix) := fun n => (World.cell?_setCell_other (w.drewN n) ⟨g, 1, none⟩ ⟨g, 2, none⟩ _ (by simp)).trans k2
      have hk3 : ∀ n, (((((w.drewN n).setCell ⟨g, 1, none⟩ (.int .i64 ((A : Int) + 1))).setCell ⟨g, 2, none⟩ (.int .u64 M1)).setCell ⟨g, 2, none⟩ (.int .u64 M2)).setCell ⟨g, 2, none⟩ (.int .u64 M3)).cell? ⟨g, 2, none⟩ = some (.int .u64 M3) := fun n =>
        World.cell?_setCell_same _ _ _ (World.cell?_setCell_same _ _ _ (World.cell?_setCell_same _ _ _ (kk n)))
      have hk2 : ∀ n, ((((w.drewN n).setCell ⟨g, 1, none⟩ (.int .i64 ((A : Int) + 1))).setCell ⟨g, 2, none⟩ (.int .u64 M1)).setCell ⟨g, 2, none⟩ (.int .u64 M2)).cell? ⟨g, 2, none⟩ = some (.int .u64 M2) := fun n =>
        World.cell?_setCell_same _ _ _ (World.cell?_setCell_same _ _ _ (kk n))
      have hk1 : ∀ n, (((w.drewN n).setCell ⟨g, 1, none⟩ (.int .i64 ((A : Int) + 1))).setCell ⟨g, 2, none⟩ (.int .u64 M1)).cell? ⟨g, 2, none⟩ = some (.int .u64 M1) := fun n =>
        World.cell?_setCell_same _ _ _ (kk n)
      go_enter Try.func62, Try.ntmps62
      go_wp2
      go_quiet (fail)
      go_wp2
      go_quiet (fail)
      go_wp2
      go_region
      go_wp2
      go_region
      go_wp2
      go_region
      go_wp2
      go_ret
      exact src_done ⟨wrap64 ((z + M3 / 1048576) % most), rfl, rem_in (by omega) (by omega) hm⟩ hBg (((Arr.put (w := w.drewN _) HA.out 1 _).put 2 _).put 2 _ |>.put 2 _) (by omega) (by omega) b30 b31 hz0 hz1 hlen HR.out
        (grown_drew (grown_drew (grown_drew (grown_set (grown_set (grown_set (grown_set (grown_drewN (World.grownBy.refl w _) _) _ _) _ _) _ _) _ _))))
    · have hk3 : ∀ n, ((((w.drewN n).setCell ⟨g, 2, none⟩ (.int .u64 M1)).setCell ⟨g, 2, none⟩ (.int .u64 M2)).setCell ⟨g, 2, none⟩ (.int .u64 M3)).cell? ⟨g, 2, none⟩ = some (.int .u64 M3) := fun n =>
        World.cell?_setCell_same _ _ _ (World.cell?_setCell_same _ _ _ (World.cell?_setCell_same (w.drewN n) _ _ k2))
      go_enter Try.func62, Try.ntmps62
      go_wp2
      go_quiet (fail)
      go_wp2
      go_region
      go_wp2
      go_region
      go_wp2
      go_region
      go_wp2
      go_ret
      have hgr : w.grownBy ((((w.drewN (nq + 1)).setCell ⟨g, 2, none⟩ (.int .u64 M1)).setCell ⟨g, 2, none⟩ (.int .u64 M2)).setCell ⟨g, 2, none⟩ (.int .u64 M3)).drew.drew (some g) :=
        grown_drew (grown_drew (grown_set (grown_set (grown_set (grown_drewN (World.grownBy.refl w _) _) _ _) _ _) _ _))
      have hA' : Arr (w.drewN (nq + 1)) g 112 [.slice a len cap, .int .i64 at_, .int .u64 mix, .int .i64 size] := HA.out
      refine ⟨_, rfl, ⟨wrap64 (M3 / 1048576 % most), rfl, ?_⟩, ⟨hBg, a, len, cap, at_, M3, size, ((hA'.put 2 _).put 2 _).put 2 _, ha0, ha1, b30, b31, hz0, hz1, hlen, HR.out.grown hgr hBg⟩, hgr⟩
      exact rem_in (by omega) (by omega) hm

def BoolIn (v : Value) : Prop := ∃ b : Bool, v = .bool b
theorem src_one (B g : Nat) (of : Int) (w : World) (hm : of ≤ 9223372036854775807) (hS : Src w B g) :
    Calls Try.prog 54 #[.pointer (some ⟨g, 0, none⟩), .int .i64 of] w (Drew B g w BoolIn) := by
  have HS := Lib.hid hS
  clear hS
  go_enter Try.func54, Try.ntmps54
  go_wp2_with (go_at_call 62; refine (src_n B g of _ hm HS.out).mono ?_; rintro e w1 ⟨_, rfl, ⟨r, rfl, h0, h1⟩, hS1, hg1⟩)
  all_goals
    go_ret
    exact ⟨_, rfl, ⟨_, rfl⟩, hS1, hg1⟩

theorem SrcRow.below {w w' : World} {B : Nat} {a : Option Addr} {len : Nat} (h : SrcRow w B a len) (hb : Below B w w') : SrcRow w' B a len := by
  intro k hk
  obtain ⟨b, off, z, ha, hB, hc, h0, h1⟩ := h k hk
  exact ⟨b, off, z, ha, hB, (hb.cell (p := ⟨b, off + k, none⟩) hB).trans hc, h0, h1⟩
theorem info_u8d : (Try.prog.info? 5).map (fun i => (i.zero, i.size, i.bytes)) = some (some (.int .u8 0), 1, 1) := by kernel_rfl
theorem own_empty_d (w : World) (e : TypeId) : (w.alloc (.cells #[] e)).ownsRow w.heap.size e 1 (.slice (some ⟨w.heap.size, 0, none⟩) 0 0) 0 [] :=
  ⟨by simp, .inr ⟨w.heap.size, 0, #[], rfl, Nat.le_refl _, heap_alloc_new w _, Nat.le_refl _, Nat.zero_le _, by simp, by simp⟩⟩
theorem grown_alloc {w w1 : World} {r : Option Nat} (h : w.grownBy w1 r) (o : Obj) : w.grownBy (w1.alloc o) r :=
  ⟨h.os, h.tape, h.output, Nat.le_trans h.size (by simp), fun k hk hne => (Below.heap_alloc w1 o k (Nat.lt_of_lt_of_le hk h.size)).trans (h.block k hk hne)⟩
theorem Arr.alloc {w : World} {b t : Nat} {cs : List Value} (h : Arr w b t cs) (o : Obj) : Arr (w.alloc o) b t cs := by
  have hlt : b < w.heap.size := by
    rcases Nat.lt_or_ge b w.heap.size with h1 | h1
    · exact h1
    · unfold Arr at h; rw [Array.getElem?_eq_none h1] at h; cases h
  exact (Below.heap_alloc w o b hlt).trans h
theorem Src.alloc {w : World} {B g : Nat} (h : Src w B g) (o : Obj) : Src (w.alloc o) B g := by
  obtain ⟨hBg, a, len, cap, at_, mix, size, hA, h1, h2, h3, h4, h5, h6, h7, hr⟩ := h
  refine ⟨hBg, a, len, cap, at_, mix, size, hA.alloc o, h1, h2, h3, h4, h5, h6, h7, ?_⟩
  intro k hk
  obtain ⟨b, off, z, ha, hB, hc, h0, h1⟩ := hr k hk
  exact ⟨b, off, z, ha, hB, (World.cell?_alloc_lt w o ⟨b, off + k, none⟩ (lt_of_cell hc)).trans hc, h0, h1⟩
/-- What is owned elsewhere has grown: the source stands. -/
theorem Src.other {w w' : World} {B g : Nat} {r : Option Nat} (h : Src w B g) (hg : w.grownBy w' r) (hne : ∀ q, r = some q → q ≠ g) (hlt : g < w.heap.size) (hr : ∀ q, r = some q → B ≤ q) : Src w' B g := by
  obtain ⟨hBg, a, len, cap, at_, mix, size, hA, h1, h2, h3, h4, h5, h6, h7, hrow⟩ := h
  refine ⟨hBg, a, len, cap, at_, mix, size, (hg.block g hlt (fun e => hne g e.symm rfl)).trans hA, h1, h2, h3, h4, h5, h6, h7, ?_⟩
  intro k hk
  obtain ⟨b, off, z, ha, hB, hc, h0, h1⟩ := hrow k hk
  refine ⟨b, off, z, ha, hB, ?_, h0, h1⟩
  rw [World.cell?_of_block (w := w) (hg.block b (lt_of_cell hc) (fun e => by have := hr b e.symm; omega))]
  exact hc
theorem grown_same {w w1 w2 : World} {r : Option Nat} (h : w.grownBy w1 r) (k : w1.grownBy w2 r) : w.grownBy w2 r :=
  ⟨k.os.trans h.os, k.tape.trans h.tape, k.output.trans h.output, Nat.le_trans h.size k.size, fun i hi hne => (k.block i (Nat.lt_of_lt_of_le hi h.size) hne).trans (h.block i hi hne)⟩
/-- A row of the call's own has grown besides. -/
theorem grown_over {w w1 w2 : World} {r s : Option Nat} (h : w.grownBy w1 r) (k : w1.grownBy w2 s) (hs : ∀ q, s = some q → w.heap.size ≤ q) : w.grownBy w2 r :=
  ⟨k.os.trans h.os, k.tape.trans h.tape, k.output.trans h.output, Nat.le_trans h.size k.size, fun i hi hne => (k.block i (Nat.lt_of_lt_of_le hi h.size) (fun e => by have := hs i e.symm; omega)).trans (h.block i hi hne)⟩
/-- A source has been made. -/
def SrcMade (w : World) (e : Ending) (w' : World) : Prop := e = .returned (.pointer (some ⟨w.heap.size, 0, none⟩)) ∧ Src w' w.heap.size w.heap.size ∧ Below w.heap.size w w'

def SrcMadeB (B : Nat) (w : World) (e : Ending) (w' : World) : Prop := e = .returned (.pointer (some ⟨w.heap.size, 0, none⟩)) ∧ Src w' B w.heap.size ∧ Below w.heap.size w w'
theorem wrap_range {a M : Int} (h : IntKind.u64.wrap a = M) : 0 ≤ M ∧ M ≤ 18446744073709551615 := by
  rw [wrap_u64] at h
  omega

set_option maxRecDepth 100000 in
set_option maxHeartbeats 2000000 in
theorem src_sourceB (B : Nat) (a : Option Addr) (len cap : Nat) (w : World) (hlen : len ≤ 1048576) (hB : B ≤ w.heap.size) (hrow : SrcRow w B a len) :
    Calls Try.prog 52 #[.slice a len cap] w (SrcMadeB B w) := by
  have HR := Lib.hid hrow
  clear hrow
  go_enter Try.func52, Try.ntmps52
  go_wp2
  go_loopw [4] (fun i wr => ∃ (k : Nat) (mix : Int), i = .int .i64 (k : Int) ∧ k ≤ len ∧ k ≤ 64 ∧ 0 ≤ mix ∧ mix ≤ 18446744073709551615 ∧ Arr wr w.heap.size 112 [.slice a len cap, .int .i64 0, .int .u64 mix, .int .i64 0] ∧ Below w.heap.size w wr)
    (fun i _ => 64 - (intOf i).toNat)
  case atStart => exact ⟨0, 88172645463325252, rfl, by omega, by omega, by omega, by omega, Arr.fresh w _ [.slice a len cap, .int .i64 0, .int .u64 88172645463325252, .int .i64 0], (Below.refl _ _).alloc (Nat.le_refl _) _⟩
  case round =>
    obtain ⟨k, mix, rfl, hk, hk64, hm0, hm1, hA, hbel⟩ := hrel
    have k2 : wr.cell? ⟨w.heap.size, 2, none⟩ = some (.int .u64 mix) := hA.cell 2
    have k3 : wr.cell? ⟨w.heap.size, 3, none⟩ = some (.int .i64 0) := hA.cell 3
    have f2 : wr.frozen? ⟨w.heap.size, 2, none⟩ = false := hA.free 2
    have f3 : wr.frozen? ⟨w.heap.size, 3, none⟩ = false := hA.free 3
    have HA := Lib.hid hA
    clear hA
    by_cases hlt : k < len ∧ k < 64
    · obtain ⟨hl, h64⟩ := hlt
      obtain ⟨b, off, z, rfl, hb, hcz, hz0, hz1⟩ := (HR.out.below (hbel.mono hB)) k hl
      have hbne : b ≠ w.heap.size := by omega
      go_wp2
      go_region
      go_wp2
      go_roundw
      case rel =>
        obtain ⟨M, hM⟩ : ∃ M, IntKind.u64.wrap (bits BinOp.xor IntKind.u64 mix z * 1099511628211) = M := ⟨_, rfl⟩
        obtain ⟨r0, r1⟩ := wrap_range hM
        rw [hM]
        exact ⟨k + 1, M, by go_num, by omega, by omega, r0, r1, HA.out.put 2 _, (hbel.setCell (Nat.le_refl _) _).drew⟩
      case measure => simp [intOf]; omega
    · have hA3 : ∀ x : Int, (wr.setCell ⟨w.heap.size, 3, none⟩ (.int .i64 x)).cell? ⟨w.heap.size, 3, none⟩ = some (.int .i64 x) := fun x => World.cell?_setCell_same _ _ _ k3
      by_cases hbig : 12 < (len : Int) / 20
      · by_cases hl : k < len
        · have h64 : ¬ k < 64 := fun h => hlt ⟨hl, h⟩
          clear hlt
          go_wp2
          go_ret
          exact ⟨rfl, ⟨hB, a, len, cap, 0, mix, 12, (HA.out.put 3 _).put 3 _, by omega, by omega, hm0, hm1, by omega, by omega, hlen, HR.out.below (((hbel.setCell (Nat.le_refl _) _).setCell (Nat.le_refl _) _).mono hB)⟩, (hbel.setCell (Nat.le_refl _) _).setCell (Nat.le_refl _) _⟩
        · omega
      · by_cases hl : k < len
        · have h64 : ¬ k < 64 := fun h => hlt ⟨hl, h⟩
          clear hlt
          go_wp2
          go_ret
          exact ⟨rfl, ⟨hB, a, len, cap, 0, mix, _, HA.out.put 3 _, by omega, by omega, hm0, hm1, by omega, by omega, hlen, HR.out.below ((hbel.setCell (Nat.le_refl _) _).mono hB)⟩, hbel.setCell (Nat.le_refl _) _⟩
        · clear hlt
          go_wp2
          go_ret
          exact ⟨rfl, ⟨hB, a, len, cap, 0, mix, _, HA.out.put 3 _, by omega, by omega, hm0, hm1, by omega, by omega, hlen, HR.out.below ((hbel.setCell (Nat.le_refl _) _).mono hB)⟩, hbel.setCell (Nat.le_refl _) _⟩
theorem src_source (a : Option Addr) (len cap : Nat) (w : World) (hlen : len ≤ 1048576) (hrow : SrcRow w w.heap.size a len) :
    Calls Try.prog 52 #[.slice a len cap] w (SrcMade w) := src_sourceB w.heap.size a len cap w hlen (Nat.le_refl _) hrow

/-- Some bytes, at most so many. -/
def StrIn (most : Nat) (v : Value) : Prop := ∃ s : ByteArray, v = .string s ∧ s.size ≤ most

/-- A slice of bytes that came in is a row of bytes. -/
theorem srcRow_of {w : World} {x : Addr} {zs : List Int} {len : Nat} (hl : len ≤ zs.length) (hc : ∀ i, i < zs.length → w.cell? (x.add i) = some (.int .u8 (zs.getD i 0))) (hw : ∀ n ∈ zs, (Lit.int .u8 n).wf = true) : SrcRow w w.heap.size (some x) len := by
  intro k hk
  obtain ⟨b, off, rfl, hcell⟩ := ints_at hc (show 0 < zs.length by omega)
  have hk' : k < zs.length := by omega
  have h1 := hcell k hk'
  have hmem : zs.getD k 0 ∈ zs := by
    rw [List.getD_eq_getElem?_getD, List.getElem?_eq_getElem hk']
    exact List.getElem_mem hk'
  have hb := hw _ hmem
  have hr : 0 ≤ zs.getD k 0 ∧ zs.getD k 0 ≤ 255 := by simpa [Lit.wf, IntKind.min, IntKind.max, IntKind.signed, IntKind.bits] using hb
  exact ⟨b, off, _, rfl, lt_of_cell h1, h1, hr.1, hr.2⟩
theorem srcRow_nil {w : World} {B : Nat} {a : Option Addr} : SrcRow w B a 0 := fun k hk => by omega
end Go.Proofs.Ytkdljhmenejckaa

namespace Go.Proofs.Ytkdljhmenejckaa
set_option linter.unusedSimpArgs false
set_option linter.unusedVariables false
open Go.RowKit

theorem Arr.other {w w' : World} {b t : Nat} {cs : List Value} {r : Option Nat} (h : Arr w b t cs) (hg : w.grownBy w' r) (hne : r ≠ some b) : Arr w' b t cs := by
  have hlt : b < w.heap.size := by
    rcases Nat.lt_or_ge b w.heap.size with h1 | h1
    · exact h1
    · unfold Arr at h; rw [Array.getElem?_eq_none h1] at h; cases h
  exact (hg.block b hlt (fun e => hne e.symm)).trans h

theorem madeCells_zero (n : Nat) : (madeCells #[Value.int .u8 0] n).toList = (List.replicate n (0 : UInt8)).map byteV := by
  rw [List.map_replicate]
  apply List.ext_getElem
  · simp [size_madeCells]
  · intro i h1 h2
    simp [madeCells, byteV, Nat.mod_one]
/-- string(make([]byte, n)). -/
theorem run_string_made {P : Program} (w : World) (src dst e n : Nat) (hs : P.underlying src = some (.slice e)) (he : P.underlying e = some (.int .u8)) (hd : P.underlying dst = some .string) :
    (convert src dst (.slice (some ⟨w.heap.size, 0, none⟩) n n)).run P (w.alloc (.cells (madeCells #[.int .u8 0] n) e)) = .ok (.string (strOf (List.replicate n 0))) (w.alloc (.cells (madeCells #[.int .u8 0] n) e)) := by
  have hA : Arr (w.alloc (.cells (madeCells #[.int .u8 0] n) e)) w.heap.size e (madeCells #[.int .u8 0] n).toList := heap_alloc_new w _
  refine run_string_arr (P := P) _ src dst e w.heap.size e n n _ (List.replicate n 0) hA ?_ (by simp) hs he hd
  unfold Heads
  rw [madeCells_zero]
  exact List.take_of_length_le (by simp)
theorem src_below {w w1 w2 : World} (hb : Below w.heap.size w w1) (hg : w1.grownBy w2 (some w.heap.size)) : Below w.heap.size w w2 :=
  hb.grown hg hb.size (fun k hk => by simp at hk; omega)

theorem Src.lt {w : World} {B g : Nat} (h : Src w B g) : g < w.heap.size := by
  obtain ⟨_, a, len, cap, at_, mix, size, hA, _⟩ := h
  exact lt_of_cell (hA.cell 0)

theorem SrcRow.heap {w W : World} {B : Nat} {a : Option Addr} {len : Nat} (h : SrcRow w B a len) (hh : W.heap = w.heap) : SrcRow W B a len := by
  intro k hk
  obtain ⟨b, off, z, ha, hB, hc, h0, h1⟩ := h k hk
  exact ⟨b, off, z, ha, hB, by rw [← hc]; unfold World.cell?; rw [hh], h0, h1⟩
theorem SrcRow.lift {w w' : World} {B B' : Nat} {a : Option Addr} {len : Nat} (h : SrcRow w B a len) (hb : Below B w w') (hB : B ≤ B') : SrcRow w' B' a len := by
  intro k hk
  obtain ⟨b, off, z, ha, hlt, hc, h0, h1⟩ := h k hk
  exact ⟨b, off, z, ha, by omega, (hb.cell (p := ⟨b, off + k, none⟩) hlt).trans hc, h0, h1⟩

end Go.Proofs.Ytkdljhmenejckaa

namespace Go.Proofs.Ytkdljhmenejckaa
set_option linter.unusedSimpArgs false
set_option linter.unusedVariables false
open Go.RowKit

/-- A row of strings, each of at most M bytes. -/
def StrRow (w : World) (b n M : Nat) : Prop := ∀ j, j < n → ∃ s : ByteArray, w.cell? ⟨b, j, none⟩ = some (.string s) ∧ s.size ≤ M
theorem strRow_new (w : World) (t M : Nat) (ss : List ByteArray) (h : ∀ s ∈ ss, s.size ≤ M) : StrRow (w.alloc (.cells (ss.map Value.string).toArray t)) w.heap.size ss.length M := by
  intro j hj
  refine ⟨ss[j], ?_, h _ (List.getElem_mem hj)⟩
  rw [(Arr.fresh w t (ss.map Value.string)).cell]
  simp [List.getElem?_eq_getElem hj]
set_option maxHeartbeats 1000000 in
theorem src_pick (B g b n M : Nat) (w : World) (hn0 : 1 ≤ n) (hn : n ≤ 100) (hS : Src w B g) (hbg : b ≠ g) (hrow : StrRow w b n M) :
    Calls Try.prog 55 #[.pointer (some ⟨g, 0, none⟩), .slice (some ⟨b, 0, none⟩) n n] w (Drew B g w (StrIn M)) := by
  have HS := Lib.hid hS
  have HR := Lib.hid hrow
  clear hS hrow
  go_enter Try.func55, Try.ntmps55
  go_wp2_with fail
  refine (src_n B g (n : Int) _ (by omega) HS.out).mono ?_
  rintro e w1 ⟨_, rfl, ⟨r, rfl, h0, h1⟩, hS1, hg1⟩
  obtain ⟨R, rfl⟩ : ∃ R : Nat, r = R := ⟨r.toNat, by omega⟩
  have hR : R < n := by omega
  obtain ⟨s, hs, hM⟩ := HR.out R hR
  have hc : w1.cell? ⟨b, R, none⟩ = some (.string s) := by
    rw [World.cell?_of_block (w := w) (hg1.block b (lt_of_cell hs) (fun e => hbg (by injection e)))]
    exact hs
  clear h1
  go_wp2
  go_ret
  exact ⟨_, rfl, ⟨s, rfl, hM⟩, hS1, hg1⟩
theorem grown_new {w w1 : World} {r : Option Nat} (h : w.grownBy w1 r) (b i : Nat) (v : Value) (hb : w.heap.size ≤ b) : w.grownBy (w1.setCell ⟨b, i, none⟩ v) r :=
  ⟨h.os, h.tape, h.output, by simpa [World.setCell] using h.size, fun k hk hne => (Below.heap_setCell w1 ⟨b, i, none⟩ v k (by simp; omega)).trans (h.block k hk hne)⟩
theorem grown_setb (w : World) (b i : Nat) (v : Value) : w.grownBy (w.setCell ⟨b, i, none⟩ v) (some b) := grown_set (World.grownBy.refl w _) i v
theorem Src.set {w : World} {B g : Nat} (h : Src w B g) (b i : Nat) (v : Value) (hne : b ≠ g) (hB : B ≤ b) : Src (w.setCell ⟨b, i, none⟩ v) B g :=
  h.other (grown_setb w b i v) (fun q e => by injection e; omega) h.lt (fun q e => by injection e; omega)
theorem Src.on {w w1 : World} {B g : Nat} (h : Src w B g) (hb : Below w.heap.size w w1) : Src w1 B g := by
  obtain ⟨hBg, a, len, cap, at_, mix, size, hA, h1, h2, h3, h4, h5, h6, h7, hrow⟩ := id h
  refine ⟨hBg, a, len, cap, at_, mix, size, arr_below hA hb, h1, h2, h3, h4, h5, h6, h7, ?_⟩
  intro k hk
  obtain ⟨b, off, z, ha, hB, hc, h0, h1⟩ := hrow k hk
  exact ⟨b, off, z, ha, hB, (hb.cell (p := ⟨b, off + k, none⟩) (lt_of_cell hc)).trans hc, h0, h1⟩
theorem grown_on {w w1 w2 : World} {r : Option Nat} (h : w.grownBy w1 r) (hb : Below w1.heap.size w1 w2) : w.grownBy w2 r :=
  ⟨hb.os.trans h.os, hb.tape.trans h.tape, hb.output.trans h.output, Nat.le_trans h.size hb.size, fun k hk hne => (hb.block k (Nat.lt_of_lt_of_le hk h.size)).trans (h.block k hk hne)⟩
theorem strRow_at (w : World) (t M b : Nat) (ss : List ByteArray) (hb : b = w.heap.size) (h : ∀ s ∈ ss, s.size ≤ M) : StrRow (w.alloc (.cells (ss.map Value.string).toArray t)) b ss.length M := by
  subst hb
  exact strRow_new w t M ss h
theorem below_grown {B g : Nat} {w w1 w2 : World} (hb : Below B w w1) (hB : B ≤ w1.heap.size) (hg : w1.grownBy w2 (some g)) (hg' : B ≤ g) : Below B w w2 :=
  hb.grown hg hB (fun k hk => by simp at hk; omega)
theorem srcRow_alloc {w : World} {B : Nat} {a : Option Addr} {len : Nat} (h : SrcRow w B a len) (o : Obj) : SrcRow (w.alloc o) B a len := by
  intro k hk
  obtain ⟨b, off, z, ha, hb, hc, h0, h1⟩ := h k hk
  exact ⟨b, off, z, ha, hb, (World.cell?_alloc_lt w o ⟨b, off + k, none⟩ (lt_of_cell hc)).trans hc, h0, h1⟩
end Go.Proofs.Ytkdljhmenejckaa

namespace Go.Proofs.Ytkdljhmenejckaa
set_option linter.unusedSimpArgs false
set_option linter.unusedVariables false
open Go.RowKit Go.Joins

/-- Small sessions. -/
def SeW (xs : List SeL) : Prop := xs.length ≤ 5 ∧ ∀ x ∈ xs, x.r.size ≤ 100 ∧ x.s.size ≤ 100
theorem sew_ill (c : Int) : SeW (illS c).l := ⟨Nat.zero_le _, fun x hx => by cases hx⟩
theorem sew_bind {xs : List SeL} {r : ByteArray} (h : SeW xs) (hr : r.size ≤ 100) : SeW (bindR xs r).l := by
  unfold bindR
  split
  · exact sew_ill _
  · split
    · exact sew_ill _
    · split
      · exact sew_ill _
      · split
        · exact sew_ill _
        · rename_i h5
          have hl := h.1
          refine ⟨?_, fun x hx => ?_⟩
          · show (xs.take _ ++ _ :: xs.drop _).length ≤ 5
            rw [List.length_append, List.length_take, List.length_cons, List.length_drop]
            omega
          · rcases List.mem_append.1 hx with hx | hx
            · exact h.2 x (List.mem_of_mem_take hx)
            · rcases List.mem_cons.1 hx with rfl | hx
              · exact ⟨hr, Nat.zero_le _⟩
              · exact h.2 x (List.mem_of_mem_drop hx)
theorem sew_unbind {xs : List SeL} {r : ByteArray} (h : SeW xs) : SeW (unbindR xs r).l := by
  unfold unbindR
  split
  · exact sew_ill _
  · split
    · exact sew_ill _
    · split
      · exact sew_ill _
      · have hl := h.1
        refine ⟨?_, fun x hx => ?_⟩
        · show (xs.take _ ++ xs.drop _).length ≤ 5
          rw [List.length_append, List.length_take, List.length_drop]
          omega
        · rcases List.mem_append.1 hx with hx | hx
          · exact h.2 x (List.mem_of_mem_take hx)
          · exact h.2 x (List.mem_of_mem_drop hx)
theorem sew_with {xs : List SeL} {y : SeL} (h : SeW xs) (hr : y.r.size ≤ 100) (hs : y.s.size ≤ 100) : SeW (withR xs y).l := by
  unfold withR
  split
  · exact sew_ill _
  · split
    · exact sew_ill _
    · split
      · exact sew_ill _
      · split
        · exact sew_ill _
        · refine ⟨by rw [List.length_set]; exact h.1, fun x hx => ?_⟩
          rcases List.mem_or_eq_of_mem_set hx with hx | rfl
          · exact h.2 x hx
          · exact ⟨hr, hs⟩
theorem sew_pres {xs : List SeL} {r : ByteArray} {p : Int} {s : ByteArray} (h : SeW xs) (hr : r.size ≤ 100) (hs : s.size ≤ 100) : SeW (presR xs r p s).l := by
  unfold presR
  split
  · exact sew_ill _
  · exact sew_with h hr hs
theorem names_small : ∀ s ∈ [(⟨#[104, 111, 109, 101]⟩ : ByteArray), ⟨#[119, 111, 114, 107]⟩, ⟨#[120]⟩, ⟨#[89, 40, 49, 41]⟩, ⟨#[112, 104, 111, 110, 101]⟩, ⟨#[112, 97, 100]⟩], s.size ≤ 100 := by
  intro s hs
  simp at hs
  rcases hs with rfl | rfl | rfl | rfl | rfl | rfl <;> decide
set_option maxHeartbeats 1000000 in
theorem draw_sname (B g : Nat) (w : World) (hS : Src w B g) :
    Calls Try.prog 56 #[.pointer (some ⟨g, 0, none⟩)] w (Drew B g w (StrIn 100)) := by
  have HS := Lib.hid hS
  have hlt := hS.lt
  clear hS
  go_enter Try.func56, Try.ntmps56
  go_wp2_with fail
  refine (src_pick B g w.heap.size 6 100 _ (by omega) (by omega) (HS.out.alloc _) (by omega) (strRow_at w 9 100 _ [⟨#[104, 111, 109, 101]⟩, ⟨#[119, 111, 114, 107]⟩, ⟨#[120]⟩, ⟨#[89, 40, 49, 41]⟩, ⟨#[112, 104, 111, 110, 101]⟩, ⟨#[112, 97, 100]⟩] rfl names_small)).mono ?_
  rintro e w1 ⟨_, rfl, ⟨s, rfl, hs⟩, hS1, hg1⟩
  go_wp2
  go_ret
  exact ⟨_, rfl, ⟨s, rfl, hs⟩, hS1, grown_same (World.grownBy_alloc w _ (some g)) hg1⟩
end Go.Proofs.Ytkdljhmenejckaa

namespace Go.Proofs.Ytkdljhmenejckaa
set_option linter.unusedSimpArgs false
set_option linter.unusedVariables false
open Go.RowKit Go.Joins

theorem own_grown9 {α : Type} {enc : α → List Value} {W W2 : World} {g B e size : Nat} {v : Value} {xs : List α} (ho : OwnC enc W B e size v xs) (hg : W.grownBy W2 (some g)) (hB : g < B) : OwnC enc W2 B e size v xs := by
  refine ⟨ho.1, ?_⟩
  rcases ho.2 with h0 | ⟨j, c, cur, h1, h2, h3, h4⟩
  · exact .inl h0
  · exact .inr ⟨j, c, cur, h1, h2, (hg.block j (Array.getElem?_eq_some_iff.1 h3).1 (fun e => by have := Option.some.inj e; omega)).trans h3, h4⟩
theorem arr_grown9 {W W2 : World} {g b t : Nat} {cs : List Value} (h : Arr W b t cs) (hg : W.grownBy W2 (some g)) (hne : b ≠ g) : Arr W2 b t cs := (hg.block b (arr9_lt h) (fun e => hne (Option.some.inj e))).trans h
/-- The source, and sessions that lie in a row of the call's own. -/
def SdS (w W : World) (B g : Nat) (xs : List SeL) (p : Option Addr) (k : Nat) : Prop :=
  Src W B g ∧ w.grownBy W (some g) ∧ OwnC seC W w.heap.size 42 4 (.slice p xs.length k) xs
theorem SdS.on {w W W2 : World} {B g : Nat} {xs : List SeL} {p : Option Addr} {k : Nat} (h : SdS w W B g xs p k) (hb : Below W.heap.size W W2) : SdS w W2 B g xs p k := ⟨h.1.on hb, grown_on h.2.1 hb, h.2.2.on hb⟩
theorem SdS.src {w W W2 : World} {B g : Nat} {xs : List SeL} {p : Option Addr} {k : Nat} (h : SdS w W B g xs p k) (hS : Src W2 B g) (hg : W.grownBy W2 (some g)) (hlt : g < w.heap.size) : SdS w W2 B g xs p k :=
  ⟨hS, grown_same h.2.1 hg, own_grown9 h.2.2 hg hlt⟩
/-- .. and an answer in a box. -/
def SdY (w W : World) (B g : Nat) (xs : List SeL) (p : Option Addr) (k b : Nat) (R : SoL) (q : Option Addr) (l : Nat) : Prop :=
  SdS w W B g xs p k ∧ w.heap.size ≤ b ∧ Arr W b 27 [.slice q R.l.length l, .int .i64 R.c] ∧ OwnC seC W w.heap.size 42 4 (.slice q R.l.length l) R.l
theorem SdY.on {w W W2 : World} {B g b l : Nat} {xs : List SeL} {p q : Option Addr} {k : Nat} {R : SoL} (h : SdY w W B g xs p k b R q l) (hb : Below W.heap.size W W2) : SdY w W2 B g xs p k b R q l := ⟨h.1.on hb, h.2.1, arr9_on h.2.2.1 hb, h.2.2.2.on hb⟩
theorem SdY.src {w W W2 : World} {B g b l : Nat} {xs : List SeL} {p q : Option Addr} {k : Nat} {R : SoL} (h : SdY w W B g xs p k b R q l) (hS : Src W2 B g) (hg : W.grownBy W2 (some g)) (hlt : g < w.heap.size) : SdY w W2 B g xs p k b R q l :=
  ⟨h.1.src hS hg hlt, h.2.1, arr_grown9 h.2.2.1 hg (by have := h.2.1; omega), own_grown9 h.2.2.2 hg hlt⟩
theorem SdY.new {w W : World} {B g l : Nat} {xs : List SeL} {p q : Option Addr} {k : Nat} {R : SoL} (h : SdS w W B g xs p k) (ho : OwnC seC W w.heap.size 42 4 (.slice q R.l.length l) R.l) : SdY w (W.alloc (.cells #[.slice q R.l.length l, .int .i64 R.c] 27)) B g xs p k W.heap.size R q l :=
  ⟨h.on ((Below.refl _ _).alloc (Nat.le_refl _) _), h.2.1.size, Arr.fresh W _ [.slice q R.l.length l, .int .i64 R.c], ho.alloc _⟩
theorem shows_small : ∀ s ∈ [(⟨#[]⟩ : ByteArray), ⟨#[97, 119, 97, 121]⟩, ⟨#[100, 110, 100]⟩], s.size ≤ 100 := by
  intro s hs
  simp at hs
  rcases hs with rfl | rfl | rfl <;> decide
theorem own_grownN {α : Type} {enc : α → List Value} {W W2 : World} {b B e size : Nat} {v : Value} {xs : List α} (ho : OwnC enc W B e size v xs) (hg : W.grownBy W2 (some b)) (hne : ∀ j, v.ownBlock = some j → b ≠ j) : OwnC enc W2 B e size v xs := by
  refine ⟨ho.1, ?_⟩
  rcases ho.2 with h0 | ⟨j, c, cur, h1, h2, h3, h4⟩
  · exact .inl h0
  · exact .inr ⟨j, c, cur, h1, h2, (hg.block j (Array.getElem?_eq_some_iff.1 h3).1 (fun e => hne j (by rw [h1]; rfl) (Option.some.inj e).symm)).trans h3, h4⟩
theorem SdY.put {w W : World} {B g b l l2 : Nat} {xs : List SeL} {p q q2 : Option Addr} {k : Nat} {R R2 : SoL} (h : SdY w W B g xs p k b R q l) (hlt : g < w.heap.size) (ho : OwnC seC W w.heap.size 42 4 (.slice q2 R2.l.length l2) R2.l) :
    SdY w ((W.setCell ⟨b, 0, none⟩ (.slice q2 R2.l.length l2)).setCell ⟨b, 1, none⟩ (.int .i64 R2.c)) B g xs p k b R2 q2 l2 := by
  have n1 := own_neS h.1.2.2 h.2.2.1
  have n2 := own_neS ho h.2.2.1
  have hb := h.2.1
  have hB := h.1.1.1
  refine ⟨⟨(h.1.1.set b 0 _ (by omega) (by omega)).set b 1 _ (by omega) (by omega), grown_new (grown_new h.1.2.1 b 0 _ hb) b 1 _ hb, own_grownN (own_grownN h.1.2.2 (grown_setb W b 0 _) n1) (grown_setb _ b 1 _) n1⟩, hb, (h.2.2.1.put 0 _).put 1 _, own_grownN (own_grownN ho (grown_setb W b 0 _) n2) (grown_setb _ b 1 _) n2⟩
theorem sds_app {w W W2 : World} {B g : Nat} {xs ys : List SeL} {p : Option Addr} {k : Nat} {o : Obj} {v : Value} (h : SdS w W B g xs p k) (hlt : g < w.heap.size) (hv : OwnC seC W2 w.heap.size 42 4 v ys) (hg : (W.alloc o).grownBy W2 (Value.slice p xs.length k).ownBlock) :
    ∃ p4 k4, v = .slice p4 ys.length k4 ∧ SdS w W2 B g ys p4 k4 := by
  obtain ⟨p4, k4, e, -⟩ := hv.row seC_len
  have hb := own_base h.2.2
  have hB := h.1.1
  have hl := h.1.lt
  exact ⟨p4, k4, e, (h.1.alloc o).other hg (fun q hq => by have := hb q hq; omega) (by rw [World.size_alloc]; omega) (fun q hq => by have := hb q hq; omega), grown_over (grown_alloc h.2.1 o) hg hb, e ▸ hv⟩
theorem four_at {W : World} {b R : Nat} {x0 x1 x2 x3 : Int} (h : Arr W b 2 [.int .i64 x0, .int .i64 x1, .int .i64 x2, .int .i64 x3]) (h1 : R < 4) : ∃ n, W.cell? ⟨b, R, none⟩ = some (.int .i64 n) := by
  have e : R = 0 ∨ R = 1 ∨ R = 2 ∨ R = 3 := by omega
  rcases e with rfl | rfl | rfl | rfl
  · exact ⟨_, h.cell 0⟩
  · exact ⟨_, h.cell 1⟩
  · exact ⟨_, h.cell 2⟩
  · exact ⟨_, h.cell 3⟩
set_option maxRecDepth 100000 in
set_option maxHeartbeats 4000000 in
theorem draw_sess (B g : Nat) (w : World) (hS : Src w B g) :
    Calls Try.prog 53 #[.pointer (some ⟨g, 0, none⟩)] w fun e w' => ∃ xs p k, e = .returned (.slice p xs.length k) ∧ SdS w w' B g xs p k ∧ (xs.length ≤ 6 ∧ ∀ x ∈ xs, x.r.size ≤ 100 ∧ x.s.size ≤ 100) := by
  have hlt := hS.lt
  have hBg := hS.1
  have HS0 : Hid (SdS w (w.alloc (.cells #[] 42)) B g [] (some ⟨w.heap.size, 0, none⟩) 0) := Lib.hid ⟨hS.alloc _, World.grownBy_alloc w _ _, empty_row9 w⟩
  clear hS
  go_enter Try.func53, Try.ntmps53
  go_wp2_with fail
  refine (src_n B g 9 _ (by omega) HS0.out.1).mono ?_
  rintro e w1 ⟨_, rfl, ⟨z0, rfl, hz0, hz1⟩, hS1, hg1⟩
  have HS1 := Lib.hid (HS0.out.src hS1 hg1 hlt)
  clear hS1 hg1
  go_wp2_with fail
  go_loopw [3, 4] (fun lq kq wr => ∃ (xs : List SeL) (p : Option Addr) (k m : Nat) (z : Int), lq = .slice p m k ∧ m = xs.length ∧ kq = .int .i64 z ∧ 0 ≤ z ∧ z ≤ 9 ∧ SdS w wr B g xs p k ∧ SeW xs) (fun _ z _ => (intOf z).toNat)
  case atStart => exact ⟨[], _, _, 0, z0, rfl, rfl, rfl, hz0, by omega, HS1.out, Nat.zero_le _, fun x hx => by cases hx⟩
  case round =>
    obtain ⟨xs, p, k, m, z, rfl, hm, rfl, hz, hz9, hs, hw⟩ := hrel
    have HS := Lib.hid hs
    have HW := Lib.hid hw
    have HM := Lib.hid hm
    have i1 := fun (r : ByteArray) (hr : r.size ≤ 100) W hO => spec_bind xs r p k w.heap.size W (by have := HW.out.1; omega) (by omega) (fun x hx => by have := HW.out.2 x hx; omega) hO
    have i2 := fun (r : ByteArray) (hr : r.size ≤ 100) W hO => spec_unbind xs r p k w.heap.size W (by have := HW.out.1; omega) (by omega) (fun x hx => by have := HW.out.2 x hx; omega) hO
    have i3 := fun (r : ByteArray) (pr : Int) (s : ByteArray) (hr : r.size ≤ 100) (hs : s.size ≤ 100) W hO => spec_present xs r pr s p k w.heap.size W (by have := HW.out.1; omega) (by omega) (by omega) (fun x hx => by have := HW.out.2 x hx; omega) hO
    unfold SoIs at i1 i2 i3
    rw [← hm] at i1 i2 i3
    clear hs hw hm
    by_cases h0 : 0 < z
    · go_wp2_with fail
      refine (draw_sname B g wr HS.out.1).mono ?_
      rintro e w2 ⟨_, rfl, ⟨r, rfl, hr⟩, hS2, hg2⟩
      have HS2 := Lib.hid (HS.out.src hS2 hg2 hlt)
      have hww := Lib.hid HS2.out.2.1.size
      clear hS2 hg2 HS
      go_wp2_with fail
      go_fit (i1 r hr w2 (by rw [HM.out]; exact HS2.out.2.2))
      rintro e w3 ⟨⟨q, l, rfl, ho⟩, hb⟩
      have HY3 := Lib.hid (SdY.new (HS2.out.on hb) (ho.mono hww.out))
      have hRW := sew_bind HW.out hr
      clear ho hb HS2 hww
      obtain ⟨R, hR⟩ : ∃ R, bindR xs r = R := ⟨_, rfl⟩
      rw [hR] at HY3 hRW ⊢
      have HRW := Lib.hid hRW
      clear hR hRW
      go_wp2_with fail
      refine (src_n B g 4 _ (by omega) HY3.out.1.1).mono ?_
      rintro e w4 ⟨_, rfl, ⟨t, rfl, ht0, ht1⟩, hS4, hg4⟩
      have HY4 := Lib.hid (HY3.out.src hS4 hg4 hlt)
      clear hS4 hg4 HY3
      have ht4 : t = 0 ∨ t = 1 ∨ t = 2 ∨ t = 3 := by omega
      clear ht0 ht1
      rcases ht4 with rfl | rfl | rfl | rfl
      · go_wp2_with fail
        refine (draw_sname B g w4 HY4.out.1.1).mono ?_
        rintro e w5 ⟨_, rfl, ⟨r2, rfl, hr2⟩, hS5, hg5⟩
        have HY5 := Lib.hid (HY4.out.src hS5 hg5 hlt)
        have hww := Lib.hid HY5.out.1.2.1.size
        clear hS5 hg5 HY4
        go_wp2_with fail
        go_fit (i2 r2 hr2 w5 (by rw [HM.out]; exact HY5.out.1.2.2))
        rintro e w6 ⟨⟨q2, l2, rfl, ho⟩, hb⟩
        have HY6 := Lib.hid (HY5.out.on hb)
        have HO6 := Lib.hid (ho.mono hww.out)
        have hRW2 := sew_unbind (r := r2) HW.out
        clear ho hb HY5 hww
        obtain ⟨R2, hR2⟩ : ∃ R, unbindR xs r2 = R := ⟨_, rfl⟩
        rw [hR2] at HO6 hRW2 ⊢
        have HRW2 := Lib.hid hRW2
        have HY7 := Lib.hid (HY6.out.put hlt HO6.out)
        clear hR2 hRW2
        obtain ⟨⟨d0, d1⟩, e0, e1⟩ := arr9_two HY6.out.2.2.1
        obtain ⟨⟨c0, c1⟩, f0, f1⟩ := arr9_two HY7.out.2.2.1
        by_cases hc : R2.c = 0
        · have hyc := HY7.out
          (try rw [hc] at hyc)
          have HYC := Lib.hid hyc
          clear hyc
          go_wp2_with fail
          go_roundw
          case rel => exact ⟨R2.l, q2, l2, R2.l.length, z - 1, rfl, rfl, by go_num, by omega, by omega, ⟨HYC.out.1.1, HYC.out.1.2.1, HYC.out.2.2.2⟩, HRW2.out⟩
          case measure => simp [intOf]; omega
        · go_wp2_with fail
          go_roundw
          case rel => exact ⟨xs, _, k, m, z - 1, rfl, HM.out, by go_num, by omega, by omega, HY7.out.1, HW.out⟩
          case measure => simp [intOf]; omega
      · go_wp2_with fail
        refine (draw_sname B g w4 HY4.out.1.1).mono ?_
        rintro e w5 ⟨_, rfl, ⟨r2, rfl, hr2⟩, hS5, hg5⟩
        have HY5 := Lib.hid (HY4.out.src hS5 hg5 hlt)
        clear hS5 hg5 HY4
        by_cases hm0 : 0 < m
        · have hmi : (0 : Int) < (m : Int) := by omega
          go_wp2_with fail
          refine (src_one B g 4 w5 (by omega) HY5.out.1.1).mono ?_
          rintro e w6 ⟨_, rfl, ⟨b, rfl⟩, hS6, hg6⟩
          have HY5b := Lib.hid (HY5.out.src hS6 hg6 hlt)
          clear hS6 hg6 HY5
          cases b
          · go_wp2_with fail
            refine (src_n B g (m : Int) w6 (by have := HW.out.1; have := HM.out; omega) HY5b.out.1.1).mono ?_
            rintro e w7 ⟨_, rfl, ⟨ti, rfl, hti0, hti1⟩, hS7, hg7⟩
            have HY5c := Lib.hid (HY5b.out.src hS7 hg7 hlt)
            clear hS7 hg7 HY5b
            obtain ⟨j, rfl⟩ : ∃ j : Nat, ti = j := ⟨ti.toNat, by omega⟩
            have hjm : j < m := by omega
            have hj1 : j < xs.length := by rw [← HM.out]; exact hjm
            obtain ⟨gr, hgr, _, a0, -⟩ := row_se4 (row_own9 HY5c.out.1.2.2) hj1
            subst hgr
            have hrj := (HW.out.2 _ (List.getElem_mem hj1)).1
            obtain ⟨rj, hrj2⟩ : ∃ r, xs[j].r = r := ⟨_, rfl⟩
            rw [hrj2] at a0 hrj
            clear hrj2 hti0 hti1
            go_wp2_with fail
            refine (src_n B g 6 _ (by omega) HY5c.out.1.1).mono ?_
            rintro e w8 ⟨_, rfl, ⟨pz, rfl, hp0, hp1⟩, hS8, hg8⟩
            have hp5 : pz ≤ 5 := by omega
            have HY8 := Lib.hid (HY5c.out.src hS8 hg8 hlt)
            have hgw8 : g < w8.heap.size := by have := HY8.out.1.2.1.size; omega
            clear hS8 hg8 hp1 HY5c
            go_wp2_with fail
            refine (src_pick B g w8.heap.size 3 100 _ (by omega) (by omega) (HY8.out.1.1.alloc _) (by omega) (strRow_at w8 9 100 _ [⟨#[]⟩, ⟨#[97, 119, 97, 121]⟩, ⟨#[100, 110, 100]⟩] rfl shows_small)).mono ?_
            rintro e w9 ⟨_, rfl, ⟨sh, rfl, hsh⟩, hS9, hg9⟩
            have HY9 := Lib.hid ((HY8.out.on ((Below.refl _ _).alloc (Nat.le_refl _) _)).src hS9 hg9 hlt)
            have hww := Lib.hid HY9.out.1.2.1.size
            clear hS9 hg9 HY8
            go_wp2_with fail
            go_fit (i3 rj (pz - 2) sh hrj hsh w9 (by rw [HM.out]; exact HY9.out.1.2.2))
            rintro e w10 ⟨⟨q2, l2, rfl, ho⟩, hb⟩
            have HY6 := Lib.hid (HY9.out.on hb)
            have HO6 := Lib.hid (ho.mono hww.out)
            have hRW2 := sew_pres (p := pz - 2) HW.out hrj hsh
            clear ho hb HY9 hww
            obtain ⟨R2, hR2⟩ : ∃ R, presR xs rj (pz - 2) sh = R := ⟨_, rfl⟩
            rw [hR2] at HO6 hRW2 ⊢
            have HRW2 := Lib.hid hRW2
            have HY7 := Lib.hid (HY6.out.put hlt HO6.out)
            clear hR2 hRW2
            obtain ⟨⟨d0, d1⟩, e0, e1⟩ := arr9_two HY6.out.2.2.1
            obtain ⟨⟨c0, c1⟩, f0, f1⟩ := arr9_two HY7.out.2.2.1
            by_cases hc : R2.c = 0
            · have hyc := HY7.out
              (try rw [hc] at hyc)
              have HYC := Lib.hid hyc
              clear hyc
              go_wp2_with fail
              go_roundw
              case rel => exact ⟨R2.l, q2, l2, R2.l.length, z - 1, rfl, rfl, by go_num, by omega, by omega, ⟨HYC.out.1.1, HYC.out.1.2.1, HYC.out.2.2.2⟩, HRW2.out⟩
              case measure => simp [intOf]; omega
            · go_wp2_with fail
              go_roundw
              case rel => exact ⟨xs, _, k, m, z - 1, rfl, HM.out, by go_num, by omega, by omega, HY7.out.1, HW.out⟩
              case measure => simp [intOf]; omega
          · go_wp2_with fail
            refine (src_n B g 6 _ (by omega) HY5b.out.1.1).mono ?_
            rintro e w8 ⟨_, rfl, ⟨pz, rfl, hp0, hp1⟩, hS8, hg8⟩
            have hp5 : pz ≤ 5 := by omega
            have HY8 := Lib.hid (HY5b.out.src hS8 hg8 hlt)
            have hgw8 : g < w8.heap.size := by have := HY8.out.1.2.1.size; omega
            clear hS8 hg8 hp1 HY5b
            go_wp2_with fail
            refine (src_pick B g w8.heap.size 3 100 _ (by omega) (by omega) (HY8.out.1.1.alloc _) (by omega) (strRow_at w8 9 100 _ [⟨#[]⟩, ⟨#[97, 119, 97, 121]⟩, ⟨#[100, 110, 100]⟩] rfl shows_small)).mono ?_
            rintro e w9 ⟨_, rfl, ⟨sh, rfl, hsh⟩, hS9, hg9⟩
            have HY9 := Lib.hid ((HY8.out.on ((Below.refl _ _).alloc (Nat.le_refl _) _)).src hS9 hg9 hlt)
            have hww := Lib.hid HY9.out.1.2.1.size
            clear hS9 hg9 HY8
            go_wp2_with fail
            go_fit (i3 r2 (pz - 2) sh hr2 hsh w9 (by rw [HM.out]; exact HY9.out.1.2.2))
            rintro e w10 ⟨⟨q2, l2, rfl, ho⟩, hb⟩
            have HY6 := Lib.hid (HY9.out.on hb)
            have HO6 := Lib.hid (ho.mono hww.out)
            have hRW2 := sew_pres (p := pz - 2) HW.out hr2 hsh
            clear ho hb HY9 hww
            obtain ⟨R2, hR2⟩ : ∃ R, presR xs r2 (pz - 2) sh = R := ⟨_, rfl⟩
            rw [hR2] at HO6 hRW2 ⊢
            have HRW2 := Lib.hid hRW2
            have HY7 := Lib.hid (HY6.out.put hlt HO6.out)
            clear hR2 hRW2
            obtain ⟨⟨d0, d1⟩, e0, e1⟩ := arr9_two HY6.out.2.2.1
            obtain ⟨⟨c0, c1⟩, f0, f1⟩ := arr9_two HY7.out.2.2.1
            by_cases hc : R2.c = 0
            · have hyc := HY7.out
              (try rw [hc] at hyc)
              have HYC := Lib.hid hyc
              clear hyc
              go_wp2_with fail
              go_roundw
              case rel => exact ⟨R2.l, q2, l2, R2.l.length, z - 1, rfl, rfl, by go_num, by omega, by omega, ⟨HYC.out.1.1, HYC.out.1.2.1, HYC.out.2.2.2⟩, HRW2.out⟩
              case measure => simp [intOf]; omega
            · go_wp2_with fail
              go_roundw
              case rel => exact ⟨xs, _, k, m, z - 1, rfl, HM.out, by go_num, by omega, by omega, HY7.out.1, HW.out⟩
              case measure => simp [intOf]; omega
        · have hmi : ¬ (0 : Int) < (m : Int) := by omega
          go_wp2_with fail
          refine (src_n B g 6 _ (by omega) HY5.out.1.1).mono ?_
          rintro e w8 ⟨_, rfl, ⟨pz, rfl, hp0, hp1⟩, hS8, hg8⟩
          have hp5 : pz ≤ 5 := by omega
          have HY8 := Lib.hid (HY5.out.src hS8 hg8 hlt)
          have hgw8 : g < w8.heap.size := by have := HY8.out.1.2.1.size; omega
          clear hS8 hg8 hp1 HY5
          go_wp2_with fail
          refine (src_pick B g w8.heap.size 3 100 _ (by omega) (by omega) (HY8.out.1.1.alloc _) (by omega) (strRow_at w8 9 100 _ [⟨#[]⟩, ⟨#[97, 119, 97, 121]⟩, ⟨#[100, 110, 100]⟩] rfl shows_small)).mono ?_
          rintro e w9 ⟨_, rfl, ⟨sh, rfl, hsh⟩, hS9, hg9⟩
          have HY9 := Lib.hid ((HY8.out.on ((Below.refl _ _).alloc (Nat.le_refl _) _)).src hS9 hg9 hlt)
          have hww := Lib.hid HY9.out.1.2.1.size
          clear hS9 hg9 HY8
          go_wp2_with fail
          go_fit (i3 r2 (pz - 2) sh hr2 hsh w9 (by rw [HM.out]; exact HY9.out.1.2.2))
          rintro e w10 ⟨⟨q2, l2, rfl, ho⟩, hb⟩
          have HY6 := Lib.hid (HY9.out.on hb)
          have HO6 := Lib.hid (ho.mono hww.out)
          have hRW2 := sew_pres (p := pz - 2) HW.out hr2 hsh
          clear ho hb HY9 hww
          obtain ⟨R2, hR2⟩ : ∃ R, presR xs r2 (pz - 2) sh = R := ⟨_, rfl⟩
          rw [hR2] at HO6 hRW2 ⊢
          have HRW2 := Lib.hid hRW2
          have HY7 := Lib.hid (HY6.out.put hlt HO6.out)
          clear hR2 hRW2
          obtain ⟨⟨d0, d1⟩, e0, e1⟩ := arr9_two HY6.out.2.2.1
          obtain ⟨⟨c0, c1⟩, f0, f1⟩ := arr9_two HY7.out.2.2.1
          by_cases hc : R2.c = 0
          · have hyc := HY7.out
            (try rw [hc] at hyc)
            have HYC := Lib.hid hyc
            clear hyc
            go_wp2_with fail
            go_roundw
            case rel => exact ⟨R2.l, q2, l2, R2.l.length, z - 1, rfl, rfl, by go_num, by omega, by omega, ⟨HYC.out.1.1, HYC.out.1.2.1, HYC.out.2.2.2⟩, HRW2.out⟩
            case measure => simp [intOf]; omega
          · go_wp2_with fail
            go_roundw
            case rel => exact ⟨xs, _, k, m, z - 1, rfl, HM.out, by go_num, by omega, by omega, HY7.out.1, HW.out⟩
            case measure => simp [intOf]; omega
      · go_wp2_with fail
        refine (draw_sname B g w4 HY4.out.1.1).mono ?_
        rintro e w5 ⟨_, rfl, ⟨r2, rfl, hr2⟩, hS5, hg5⟩
        have HY5 := Lib.hid (HY4.out.src hS5 hg5 hlt)
        clear hS5 hg5 HY4
        by_cases hm0 : 0 < m
        · have hmi : (0 : Int) < (m : Int) := by omega
          go_wp2_with fail
          refine (src_one B g 4 w5 (by omega) HY5.out.1.1).mono ?_
          rintro e w6 ⟨_, rfl, ⟨b, rfl⟩, hS6, hg6⟩
          have HY5b := Lib.hid (HY5.out.src hS6 hg6 hlt)
          clear hS6 hg6 HY5
          cases b
          · go_wp2_with fail
            refine (src_n B g (m : Int) w6 (by have := HW.out.1; have := HM.out; omega) HY5b.out.1.1).mono ?_
            rintro e w7 ⟨_, rfl, ⟨ti, rfl, hti0, hti1⟩, hS7, hg7⟩
            have HY5c := Lib.hid (HY5b.out.src hS7 hg7 hlt)
            clear hS7 hg7 HY5b
            obtain ⟨j, rfl⟩ : ∃ j : Nat, ti = j := ⟨ti.toNat, by omega⟩
            have hjm : j < m := by omega
            have hj1 : j < xs.length := by rw [← HM.out]; exact hjm
            obtain ⟨gr, hgr, _, a0, -⟩ := row_se4 (row_own9 HY5c.out.1.2.2) hj1
            subst hgr
            have hrj := (HW.out.2 _ (List.getElem_mem hj1)).1
            obtain ⟨rj, hrj2⟩ : ∃ r, xs[j].r = r := ⟨_, rfl⟩
            rw [hrj2] at a0 hrj
            clear hrj2 hti0 hti1
            go_wp2_with fail
            refine (src_n B g 6 _ (by omega) HY5c.out.1.1).mono ?_
            rintro e w8 ⟨_, rfl, ⟨pz, rfl, hp0, hp1⟩, hS8, hg8⟩
            have hp5 : pz ≤ 5 := by omega
            have HY8 := Lib.hid (HY5c.out.src hS8 hg8 hlt)
            have hgw8 : g < w8.heap.size := by have := HY8.out.1.2.1.size; omega
            clear hS8 hg8 hp1 HY5c
            go_wp2_with fail
            refine (src_pick B g w8.heap.size 3 100 _ (by omega) (by omega) (HY8.out.1.1.alloc _) (by omega) (strRow_at w8 9 100 _ [⟨#[]⟩, ⟨#[97, 119, 97, 121]⟩, ⟨#[100, 110, 100]⟩] rfl shows_small)).mono ?_
            rintro e w9 ⟨_, rfl, ⟨sh, rfl, hsh⟩, hS9, hg9⟩
            have HY9 := Lib.hid ((HY8.out.on ((Below.refl _ _).alloc (Nat.le_refl _) _)).src hS9 hg9 hlt)
            have hww := Lib.hid HY9.out.1.2.1.size
            clear hS9 hg9 HY8
            go_wp2_with fail
            go_fit (i3 rj (pz - 2) sh hrj hsh w9 (by rw [HM.out]; exact HY9.out.1.2.2))
            rintro e w10 ⟨⟨q2, l2, rfl, ho⟩, hb⟩
            have HY6 := Lib.hid (HY9.out.on hb)
            have HO6 := Lib.hid (ho.mono hww.out)
            have hRW2 := sew_pres (p := pz - 2) HW.out hrj hsh
            clear ho hb HY9 hww
            obtain ⟨R2, hR2⟩ : ∃ R, presR xs rj (pz - 2) sh = R := ⟨_, rfl⟩
            rw [hR2] at HO6 hRW2 ⊢
            have HRW2 := Lib.hid hRW2
            have HY7 := Lib.hid (HY6.out.put hlt HO6.out)
            clear hR2 hRW2
            obtain ⟨⟨d0, d1⟩, e0, e1⟩ := arr9_two HY6.out.2.2.1
            obtain ⟨⟨c0, c1⟩, f0, f1⟩ := arr9_two HY7.out.2.2.1
            by_cases hc : R2.c = 0
            · have hyc := HY7.out
              (try rw [hc] at hyc)
              have HYC := Lib.hid hyc
              clear hyc
              go_wp2_with fail
              go_roundw
              case rel => exact ⟨R2.l, q2, l2, R2.l.length, z - 1, rfl, rfl, by go_num, by omega, by omega, ⟨HYC.out.1.1, HYC.out.1.2.1, HYC.out.2.2.2⟩, HRW2.out⟩
              case measure => simp [intOf]; omega
            · go_wp2_with fail
              go_roundw
              case rel => exact ⟨xs, _, k, m, z - 1, rfl, HM.out, by go_num, by omega, by omega, HY7.out.1, HW.out⟩
              case measure => simp [intOf]; omega
          · go_wp2_with fail
            refine (src_n B g 6 _ (by omega) HY5b.out.1.1).mono ?_
            rintro e w8 ⟨_, rfl, ⟨pz, rfl, hp0, hp1⟩, hS8, hg8⟩
            have hp5 : pz ≤ 5 := by omega
            have HY8 := Lib.hid (HY5b.out.src hS8 hg8 hlt)
            have hgw8 : g < w8.heap.size := by have := HY8.out.1.2.1.size; omega
            clear hS8 hg8 hp1 HY5b
            go_wp2_with fail
            refine (src_pick B g w8.heap.size 3 100 _ (by omega) (by omega) (HY8.out.1.1.alloc _) (by omega) (strRow_at w8 9 100 _ [⟨#[]⟩, ⟨#[97, 119, 97, 121]⟩, ⟨#[100, 110, 100]⟩] rfl shows_small)).mono ?_
            rintro e w9 ⟨_, rfl, ⟨sh, rfl, hsh⟩, hS9, hg9⟩
            have HY9 := Lib.hid ((HY8.out.on ((Below.refl _ _).alloc (Nat.le_refl _) _)).src hS9 hg9 hlt)
            have hww := Lib.hid HY9.out.1.2.1.size
            clear hS9 hg9 HY8
            go_wp2_with fail
            go_fit (i3 r2 (pz - 2) sh hr2 hsh w9 (by rw [HM.out]; exact HY9.out.1.2.2))
            rintro e w10 ⟨⟨q2, l2, rfl, ho⟩, hb⟩
            have HY6 := Lib.hid (HY9.out.on hb)
            have HO6 := Lib.hid (ho.mono hww.out)
            have hRW2 := sew_pres (p := pz - 2) HW.out hr2 hsh
            clear ho hb HY9 hww
            obtain ⟨R2, hR2⟩ : ∃ R, presR xs r2 (pz - 2) sh = R := ⟨_, rfl⟩
            rw [hR2] at HO6 hRW2 ⊢
            have HRW2 := Lib.hid hRW2
            have HY7 := Lib.hid (HY6.out.put hlt HO6.out)
            clear hR2 hRW2
            obtain ⟨⟨d0, d1⟩, e0, e1⟩ := arr9_two HY6.out.2.2.1
            obtain ⟨⟨c0, c1⟩, f0, f1⟩ := arr9_two HY7.out.2.2.1
            by_cases hc : R2.c = 0
            · have hyc := HY7.out
              (try rw [hc] at hyc)
              have HYC := Lib.hid hyc
              clear hyc
              go_wp2_with fail
              go_roundw
              case rel => exact ⟨R2.l, q2, l2, R2.l.length, z - 1, rfl, rfl, by go_num, by omega, by omega, ⟨HYC.out.1.1, HYC.out.1.2.1, HYC.out.2.2.2⟩, HRW2.out⟩
              case measure => simp [intOf]; omega
            · go_wp2_with fail
              go_roundw
              case rel => exact ⟨xs, _, k, m, z - 1, rfl, HM.out, by go_num, by omega, by omega, HY7.out.1, HW.out⟩
              case measure => simp [intOf]; omega
        · have hmi : ¬ (0 : Int) < (m : Int) := by omega
          go_wp2_with fail
          refine (src_n B g 6 _ (by omega) HY5.out.1.1).mono ?_
          rintro e w8 ⟨_, rfl, ⟨pz, rfl, hp0, hp1⟩, hS8, hg8⟩
          have hp5 : pz ≤ 5 := by omega
          have HY8 := Lib.hid (HY5.out.src hS8 hg8 hlt)
          have hgw8 : g < w8.heap.size := by have := HY8.out.1.2.1.size; omega
          clear hS8 hg8 hp1 HY5
          go_wp2_with fail
          refine (src_pick B g w8.heap.size 3 100 _ (by omega) (by omega) (HY8.out.1.1.alloc _) (by omega) (strRow_at w8 9 100 _ [⟨#[]⟩, ⟨#[97, 119, 97, 121]⟩, ⟨#[100, 110, 100]⟩] rfl shows_small)).mono ?_
          rintro e w9 ⟨_, rfl, ⟨sh, rfl, hsh⟩, hS9, hg9⟩
          have HY9 := Lib.hid ((HY8.out.on ((Below.refl _ _).alloc (Nat.le_refl _) _)).src hS9 hg9 hlt)
          have hww := Lib.hid HY9.out.1.2.1.size
          clear hS9 hg9 HY8
          go_wp2_with fail
          go_fit (i3 r2 (pz - 2) sh hr2 hsh w9 (by rw [HM.out]; exact HY9.out.1.2.2))
          rintro e w10 ⟨⟨q2, l2, rfl, ho⟩, hb⟩
          have HY6 := Lib.hid (HY9.out.on hb)
          have HO6 := Lib.hid (ho.mono hww.out)
          have hRW2 := sew_pres (p := pz - 2) HW.out hr2 hsh
          clear ho hb HY9 hww
          obtain ⟨R2, hR2⟩ : ∃ R, presR xs r2 (pz - 2) sh = R := ⟨_, rfl⟩
          rw [hR2] at HO6 hRW2 ⊢
          have HRW2 := Lib.hid hRW2
          have HY7 := Lib.hid (HY6.out.put hlt HO6.out)
          clear hR2 hRW2
          obtain ⟨⟨d0, d1⟩, e0, e1⟩ := arr9_two HY6.out.2.2.1
          obtain ⟨⟨c0, c1⟩, f0, f1⟩ := arr9_two HY7.out.2.2.1
          by_cases hc : R2.c = 0
          · have hyc := HY7.out
            (try rw [hc] at hyc)
            have HYC := Lib.hid hyc
            clear hyc
            go_wp2_with fail
            go_roundw
            case rel => exact ⟨R2.l, q2, l2, R2.l.length, z - 1, rfl, rfl, by go_num, by omega, by omega, ⟨HYC.out.1.1, HYC.out.1.2.1, HYC.out.2.2.2⟩, HRW2.out⟩
            case measure => simp [intOf]; omega
          · go_wp2_with fail
            go_roundw
            case rel => exact ⟨xs, _, k, m, z - 1, rfl, HM.out, by go_num, by omega, by omega, HY7.out.1, HW.out⟩
            case measure => simp [intOf]; omega
      · obtain ⟨⟨c0, c1⟩, f0, f1⟩ := arr9_two HY4.out.2.2.1
        by_cases hc : R.c = 0
        · go_wp2_with fail
          go_roundw
          case rel => exact ⟨R.l, q, l, R.l.length, z - 1, rfl, rfl, by go_num, by omega, by omega, ⟨HY4.out.1.1, HY4.out.1.2.1, HY4.out.2.2.2⟩, HRW.out⟩
          case measure => simp [intOf]; omega
        · go_wp2_with fail
          go_roundw
          case rel => exact ⟨xs, _, k, m, z - 1, rfl, HM.out, by go_num, by omega, by omega, HY4.out.1, HW.out⟩
          case measure => simp [intOf]; omega
    · obtain rfl : z = 0 := by omega
      go_wp2_with fail
      refine (src_one B g 20 wr (by omega) HS.out.1).mono ?_
      rintro e w2 ⟨_, rfl, ⟨b, rfl⟩, hS2, hg2⟩
      have HS2 := Lib.hid (HS.out.src hS2 hg2 hlt)
      clear hS2 hg2 HS
      cases b
      · go_wp2_with fail
        go_ret
        have hM := HM.out
        subst hM
        exact ⟨xs, p, k, rfl, HS2.out, by have := HW.out.1; omega, HW.out.2⟩
      · go_wp2_with fail
        refine (src_n B g 3 w2 (by omega) HS2.out.1).mono ?_
        rintro e w3 ⟨_, rfl, ⟨t, rfl, ht0, ht1⟩, hS3, hg3⟩
        have HS3 := Lib.hid (HS2.out.src hS3 hg3 hlt)
        have hM := HM.out
        subst hM
        have HL : Hid (xs.length ≤ 1000000) := Lib.hid (by have := HW.out.1; omega)
        clear hS3 hg3 HS2
        have ht3 : t = 0 ∨ t = 1 ∨ t = 2 := by omega
        clear ht0 ht1
        rcases ht3 with rfl | rfl | rfl
        · go_wp2_with (at_builtin; refine wpList_plain rfl fun K hK => ?_; refine wp_app_one9 _ _ rfl w.heap.size _ xs rfl (HS3.out.2.2.alloc _) w3.heap.size ⟨⟨#[97, 47, 98]⟩, false, 0, ⟨#[]⟩⟩ rfl (Arr.fresh w3 42 (seC ⟨⟨#[97, 47, 98]⟩, false, 0, ⟨#[]⟩⟩)) HL.out (by rw [World.size_alloc]; have := HS3.out.2.1.size; omega) ?_; intro v4 w4 hv4 hg4; have HS4 := Lib.hid (sds_app HS3.out hlt hv4 hg4); clear hv4 hg4; obtain ⟨p4, k4, e4, hs4⟩ := HS4.out; subst e4; have HS5 := Lib.hid hs4; clear hs4 HS4; refine hK _ _ ?_)
          go_ret
          exact ⟨_, p4, k4, by rw [List.length_append]; rfl, HS5.out, by have := HW.out.1; rw [List.length_append]; show _ + 1 ≤ 6; omega, fun x hx => by
            rcases List.mem_append.1 hx with hx | hx
            · exact HW.out.2 x hx
            · obtain rfl := List.mem_singleton.1 hx
              exact ⟨by decide, by decide⟩⟩
        · go_wp2_with fail
          -- R23
          refine region_join [77, 78, 79, 80, 81, 82, 83, 84, 85, 86, 87, 3] (fun vs W => ∃ (o : Bool) (n : Int) (ys : List SeL) (p4 : Option Addr) (k4 : Nat), xs ++ [(⟨⟨#[122, 122]⟩, o, n, ⟨#[]⟩⟩ : SeL)] = ys ∧ vs 3 = .slice p4 ys.length k4 ∧ SdS w W B g ys p4 k4) ?_ ?_
          · refine wp_region_held_drew (S := fun _ => True) (by kernel_rfl) trivial (fun hHeld => ?_)
            have HS4 := Lib.hid (HS3.out.on (Below.refl _ _).drew)
            generalize World.drew _ = wd at HS4 hHeld ⊢
            refine takeQ (i := 0) (k := 77) (v := .slice p xs.length k) rfl (by rfl) (by kernel_rfl) (by kernel_rfl) (by kernel_rfl) (fun _ _ _ h => h) (by rfl) ?_ hHeld ?_
            · intro w1 hSw; go_simp
            (try simp only [Act.put, List.setIfInBounds_toArray, List.set_cons_zero, List.set_cons_succ])
            refine takeQ (i := 2) (k := 79) (v := .pointer (some ⟨g, 0, none⟩)) rfl (by rfl) (by kernel_rfl) (by kernel_rfl) (by kernel_rfl) (fun _ _ _ h => h) (by rfl) ?_ hHeld ?_
            · intro w1 hSw; go_simp
            (try simp only [Act.put, List.setIfInBounds_toArray, List.set_cons_zero, List.set_cons_succ])
            refine takeQ (i := 6) (k := 83) (v := .pointer (some ⟨g, 0, none⟩)) rfl (by rfl) (by kernel_rfl) (by kernel_rfl) (by kernel_rfl) (fun _ _ _ h => h) (by rfl) ?_ hHeld ?_
            · intro w1 hSw; go_simp
            (try simp only [Act.put, List.setIfInBounds_toArray, List.set_cons_zero, List.set_cons_succ])
            refine wpAnyH_ready (rs := [1, 3]) (by kernel_rfl) (by simp) ?_
            refine AllReadyH.cons rfl (fun K hK => ?_) (AllReadyH.cons rfl (fun K hK => ?_) AllReadyH.nil)
            · skip
              rw [if_pos (by rfl)]
              go_simp
              have HSa1 := Lib.hid (HS4.out.on ((Below.refl _ _).alloc (Nat.le_refl _) (.cells #[.int .i64 (-129), .int .i64 (-128), .int .i64 127, .int .i64 128] 2)))
              have HAa2 := Lib.hid (Arr.fresh wd 2 [.int .i64 (-129), .int .i64 (-128), .int .i64 127, .int .i64 128])
              refine hK.out _ _ trivial (fun hHeld => ?_)
              clear hK K
              (try simp only [Act.put, List.setIfInBounds_toArray, List.set_cons_zero, List.set_cons_succ])
              have hbbI3 : w.heap.size ≤ wd.heap.size := HS4.out.2.1.size
              generalize wd.heap.size = bI3 at HAa2 hbbI3 ⊢
              generalize wd.alloc (.cells #[.int .i64 (-129), .int .i64 (-128), .int .i64 127, .int .i64 128] 2) = wI4 at HSa1 HAa2 ⊢
              refine wpAnyH_ready (rs := [3]) (by kernel_rfl) (by simp) ?_
              refine AllReadyH.cons rfl (fun K hK => ?_) AllReadyH.nil
              rw [if_pos (by rfl)]
              go_simp
              go_fit (src_n B g 4 _ (by omega) HSa1.out.1)
              rintro e wI5 ⟨_, rfl, ⟨r2, rfl, h20, h21⟩, hSz, hgz⟩
              have HSa6 := Lib.hid (HSa1.out.src hSz hgz hlt)
              have HAa7 := Lib.hid (arr_grown9 HAa2.out hgz (by omega))
              clear hSz hgz
              obtain ⟨j2, rfl⟩ : ∃ j2 : Nat, r2 = j2 := ⟨r2.toNat, by omega⟩
              have hj2 : j2 < 4 := by omega
              clear h20 h21
              refine hK.out _ _ trivial (fun hHeld => ?_)
              clear hK K
              (try simp only [Act.put, List.setIfInBounds_toArray, List.set_cons_zero, List.set_cons_succ])
              refine takeQ (i := 4) (k := 81) (v := .pointer (some ⟨bI3, j2, none⟩)) rfl (by rfl) (by kernel_rfl) (by kernel_rfl) (by kernel_rfl) (fun _ _ _ h => h) (by rfl) ?_ hHeld ?_
              · intro w1 hSw; go_simp; (try (intro h9; exact absurd h9 (by omega)))
              (try simp only [Act.put, List.setIfInBounds_toArray, List.set_cons_zero, List.set_cons_succ])
              refine wpAnyH_ready (rs := [5, 7]) (by kernel_rfl) (by simp) ?_
              refine AllReadyH.cons rfl (fun K hK => ?_) (AllReadyH.cons rfl (fun K hK => ?_) AllReadyH.nil)
              · skip
                rw [if_pos (by rfl)]
                go_simp
                obtain ⟨nI8, hn4⟩ := four_at HAa7.out hj2
                go_simp
                clear hn4
                refine hK.out _ _ trivial (fun hHeld => ?_)
                clear hK K
                (try simp only [Act.put, List.setIfInBounds_toArray, List.set_cons_zero, List.set_cons_succ])
                refine wpAnyH_ready (rs := [7]) (by kernel_rfl) (by simp) ?_
                refine AllReadyH.cons rfl (fun K hK => ?_) AllReadyH.nil
                rw [if_pos (by rfl)]
                go_simp
                go_fit (src_one B g 2 _ (by omega) HSa6.out.1)
                rintro e wI9 ⟨_, rfl, ⟨bo11, rfl⟩, hSz, hgz⟩
                have HSa10 := Lib.hid (HSa6.out.src hSz hgz hlt)
                have HAa12 := Lib.hid (arr_grown9 HAa7.out hgz (by omega))
                clear hSz hgz
                refine hK.out _ _ trivial (fun hHeld => ?_)
                clear hK K
                (try simp only [Act.put, List.setIfInBounds_toArray, List.set_cons_zero, List.set_cons_succ])
                refine takeQ (i := 8) (k := 85) (v := .agg #[.string ⟨#[122, 122]⟩, .bool bo11, .int .i64 nI8, .string ⟨#[]⟩]) rfl (by rfl) (by kernel_rfl) (by kernel_rfl) (by kernel_rfl) (fun _ _ _ h => h) (by rfl) ?_ hHeld ?_
                · intro w1 hSw; go_simp
                (try simp only [Act.put, List.setIfInBounds_toArray, List.set_cons_zero, List.set_cons_succ])
                refine wpAnyH_ready (rs := [9]) (by kernel_rfl) (by simp) ?_
                refine AllReadyH.cons rfl (fun K hK => ?_) AllReadyH.nil
                rw [if_pos (by rfl)]
                go_simp
                refine hK.out _ _ trivial (fun hHeld => ?_)
                clear hK K
                (try simp only [Act.put, List.setIfInBounds_toArray, List.set_cons_zero, List.set_cons_succ])
                refine wpAnyH_ready (rs := [10]) (by kernel_rfl) (by simp) ?_
                refine AllReadyH.cons rfl (fun K hK => ?_) AllReadyH.nil
                rw [if_pos (by rfl)]
                refine wp_app_one9 _ _ rfl w.heap.size _ xs rfl (HSa10.out.2.2.alloc _) wI9.heap.size ⟨⟨#[122, 122]⟩, bo11, nI8, ⟨#[]⟩⟩ rfl (Arr.fresh wI9 42 (seC ⟨⟨#[122, 122]⟩, bo11, nI8, ⟨#[]⟩⟩)) HL.out (by rw [World.size_alloc]; have := HSa10.out.2.1.size; omega) ?_
                intro v4 w4 hv4 hg4
                have HS4 := Lib.hid (sds_app HSa10.out hlt hv4 hg4)
                clear hv4 hg4
                refine hK.out _ _ trivial (fun hHeld => ?_)
                clear hK K
                (try simp only [Act.put, List.setIfInBounds_toArray, List.set_cons_zero, List.set_cons_succ])
                obtain ⟨p4, k4, e4, hs4⟩ := HS4.out
                subst e4
                obtain ⟨ys, hys⟩ : ∃ ys, xs ++ [(⟨⟨#[122, 122]⟩, bo11, nI8, ⟨#[]⟩⟩ : SeL)] = ys := ⟨_, rfl⟩
                rw [hys] at hs4 ⊢
                have HYS := Lib.hid hys
                clear hys
                refine takeQ (i := 11) (k := 3) (v := .slice p4 ys.length k4) rfl (by rfl) (by kernel_rfl) (by kernel_rfl) (by kernel_rfl) (fun _ _ _ h => h) (by rfl) ?_ hHeld ?_
                · intro w1 hSw; go_simp
                (try simp only [Act.put, List.setIfInBounds_toArray, List.set_cons_zero, List.set_cons_succ])
                refine wpAnyH_done (by kernel_rfl) ?_ _
                exact ⟨⟨bo11, nI8, ys, p4, k4, HYS.out, rfl, hs4⟩, by simp only [putAll, Act.put, List.setIfInBounds_toArray, List.set_cons_zero, List.set_cons_succ]; rfl⟩
              · skip
                rw [if_pos (by rfl)]
                go_simp
                go_fit (src_one B g 2 _ (by omega) HSa6.out.1)
                rintro e wI13 ⟨_, rfl, ⟨bo15, rfl⟩, hSz, hgz⟩
                have HSa14 := Lib.hid (HSa6.out.src hSz hgz hlt)
                have HAa16 := Lib.hid (arr_grown9 HAa7.out hgz (by omega))
                clear hSz hgz
                refine hK.out _ _ trivial (fun hHeld => ?_)
                clear hK K
                (try simp only [Act.put, List.setIfInBounds_toArray, List.set_cons_zero, List.set_cons_succ])
                refine wpAnyH_ready (rs := [5]) (by kernel_rfl) (by simp) ?_
                refine AllReadyH.cons rfl (fun K hK => ?_) AllReadyH.nil
                rw [if_pos (by rfl)]
                go_simp
                obtain ⟨nI17, hn4⟩ := four_at HAa16.out hj2
                go_simp
                clear hn4
                refine hK.out _ _ trivial (fun hHeld => ?_)
                clear hK K
                (try simp only [Act.put, List.setIfInBounds_toArray, List.set_cons_zero, List.set_cons_succ])
                refine takeQ (i := 8) (k := 85) (v := .agg #[.string ⟨#[122, 122]⟩, .bool bo15, .int .i64 nI17, .string ⟨#[]⟩]) rfl (by rfl) (by kernel_rfl) (by kernel_rfl) (by kernel_rfl) (fun _ _ _ h => h) (by rfl) ?_ hHeld ?_
                · intro w1 hSw; go_simp
                (try simp only [Act.put, List.setIfInBounds_toArray, List.set_cons_zero, List.set_cons_succ])
                refine wpAnyH_ready (rs := [9]) (by kernel_rfl) (by simp) ?_
                refine AllReadyH.cons rfl (fun K hK => ?_) AllReadyH.nil
                rw [if_pos (by rfl)]
                go_simp
                refine hK.out _ _ trivial (fun hHeld => ?_)
                clear hK K
                (try simp only [Act.put, List.setIfInBounds_toArray, List.set_cons_zero, List.set_cons_succ])
                refine wpAnyH_ready (rs := [10]) (by kernel_rfl) (by simp) ?_
                refine AllReadyH.cons rfl (fun K hK => ?_) AllReadyH.nil
                rw [if_pos (by rfl)]
                refine wp_app_one9 _ _ rfl w.heap.size _ xs rfl (HSa14.out.2.2.alloc _) wI13.heap.size ⟨⟨#[122, 122]⟩, bo15, nI17, ⟨#[]⟩⟩ rfl (Arr.fresh wI13 42 (seC ⟨⟨#[122, 122]⟩, bo15, nI17, ⟨#[]⟩⟩)) HL.out (by rw [World.size_alloc]; have := HSa14.out.2.1.size; omega) ?_
                intro v4 w4 hv4 hg4
                have HS4 := Lib.hid (sds_app HSa14.out hlt hv4 hg4)
                clear hv4 hg4
                refine hK.out _ _ trivial (fun hHeld => ?_)
                clear hK K
                (try simp only [Act.put, List.setIfInBounds_toArray, List.set_cons_zero, List.set_cons_succ])
                obtain ⟨p4, k4, e4, hs4⟩ := HS4.out
                subst e4
                obtain ⟨ys, hys⟩ : ∃ ys, xs ++ [(⟨⟨#[122, 122]⟩, bo15, nI17, ⟨#[]⟩⟩ : SeL)] = ys := ⟨_, rfl⟩
                rw [hys] at hs4 ⊢
                have HYS := Lib.hid hys
                clear hys
                refine takeQ (i := 11) (k := 3) (v := .slice p4 ys.length k4) rfl (by rfl) (by kernel_rfl) (by kernel_rfl) (by kernel_rfl) (fun _ _ _ h => h) (by rfl) ?_ hHeld ?_
                · intro w1 hSw; go_simp
                (try simp only [Act.put, List.setIfInBounds_toArray, List.set_cons_zero, List.set_cons_succ])
                refine wpAnyH_done (by kernel_rfl) ?_ _
                exact ⟨⟨bo15, nI17, ys, p4, k4, HYS.out, rfl, hs4⟩, by simp only [putAll, Act.put, List.setIfInBounds_toArray, List.set_cons_zero, List.set_cons_succ]; rfl⟩
            · skip
              rw [if_pos (by rfl)]
              go_simp
              go_fit (src_n B g 4 _ (by omega) HS4.out.1)
              rintro e wI18 ⟨_, rfl, ⟨r2, rfl, h20, h21⟩, hSz, hgz⟩
              have HSa19 := Lib.hid (HS4.out.src hSz hgz hlt)
              clear hSz hgz
              obtain ⟨j2, rfl⟩ : ∃ j2 : Nat, r2 = j2 := ⟨r2.toNat, by omega⟩
              have hj2 : j2 < 4 := by omega
              clear h20 h21
              refine hK.out _ _ trivial (fun hHeld => ?_)
              clear hK K
              (try simp only [Act.put, List.setIfInBounds_toArray, List.set_cons_zero, List.set_cons_succ])
              refine wpAnyH_ready (rs := [1, 7]) (by kernel_rfl) (by simp) ?_
              refine AllReadyH.cons rfl (fun K hK => ?_) (AllReadyH.cons rfl (fun K hK => ?_) AllReadyH.nil)
              · skip
                rw [if_pos (by rfl)]
                go_simp
                have HSa20 := Lib.hid (HSa19.out.on ((Below.refl _ _).alloc (Nat.le_refl _) (.cells #[.int .i64 (-129), .int .i64 (-128), .int .i64 127, .int .i64 128] 2)))
                have HAa21 := Lib.hid (Arr.fresh wI18 2 [.int .i64 (-129), .int .i64 (-128), .int .i64 127, .int .i64 128])
                refine hK.out _ _ trivial (fun hHeld => ?_)
                clear hK K
                (try simp only [Act.put, List.setIfInBounds_toArray, List.set_cons_zero, List.set_cons_succ])
                have hbbI22 : w.heap.size ≤ wI18.heap.size := HSa19.out.2.1.size
                generalize wI18.heap.size = bI22 at HAa21 hbbI22 ⊢
                generalize wI18.alloc (.cells #[.int .i64 (-129), .int .i64 (-128), .int .i64 127, .int .i64 128] 2) = wI23 at HSa20 HAa21 ⊢
                refine takeQ (i := 4) (k := 81) (v := .pointer (some ⟨bI22, j2, none⟩)) rfl (by rfl) (by kernel_rfl) (by kernel_rfl) (by kernel_rfl) (fun _ _ _ h => h) (by rfl) ?_ hHeld ?_
                · intro w1 hSw; go_simp; (try (intro h9; exact absurd h9 (by omega)))
                (try simp only [Act.put, List.setIfInBounds_toArray, List.set_cons_zero, List.set_cons_succ])
                refine wpAnyH_ready (rs := [5, 7]) (by kernel_rfl) (by simp) ?_
                refine AllReadyH.cons rfl (fun K hK => ?_) (AllReadyH.cons rfl (fun K hK => ?_) AllReadyH.nil)
                · skip
                  rw [if_pos (by rfl)]
                  go_simp
                  obtain ⟨nI24, hn4⟩ := four_at HAa21.out hj2
                  go_simp
                  clear hn4
                  refine hK.out _ _ trivial (fun hHeld => ?_)
                  clear hK K
                  (try simp only [Act.put, List.setIfInBounds_toArray, List.set_cons_zero, List.set_cons_succ])
                  refine wpAnyH_ready (rs := [7]) (by kernel_rfl) (by simp) ?_
                  refine AllReadyH.cons rfl (fun K hK => ?_) AllReadyH.nil
                  rw [if_pos (by rfl)]
                  go_simp
                  go_fit (src_one B g 2 _ (by omega) HSa20.out.1)
                  rintro e wI25 ⟨_, rfl, ⟨bo27, rfl⟩, hSz, hgz⟩
                  have HSa26 := Lib.hid (HSa20.out.src hSz hgz hlt)
                  have HAa28 := Lib.hid (arr_grown9 HAa21.out hgz (by omega))
                  clear hSz hgz
                  refine hK.out _ _ trivial (fun hHeld => ?_)
                  clear hK K
                  (try simp only [Act.put, List.setIfInBounds_toArray, List.set_cons_zero, List.set_cons_succ])
                  refine takeQ (i := 8) (k := 85) (v := .agg #[.string ⟨#[122, 122]⟩, .bool bo27, .int .i64 nI24, .string ⟨#[]⟩]) rfl (by rfl) (by kernel_rfl) (by kernel_rfl) (by kernel_rfl) (fun _ _ _ h => h) (by rfl) ?_ hHeld ?_
                  · intro w1 hSw; go_simp
                  (try simp only [Act.put, List.setIfInBounds_toArray, List.set_cons_zero, List.set_cons_succ])
                  refine wpAnyH_ready (rs := [9]) (by kernel_rfl) (by simp) ?_
                  refine AllReadyH.cons rfl (fun K hK => ?_) AllReadyH.nil
                  rw [if_pos (by rfl)]
                  go_simp
                  refine hK.out _ _ trivial (fun hHeld => ?_)
                  clear hK K
                  (try simp only [Act.put, List.setIfInBounds_toArray, List.set_cons_zero, List.set_cons_succ])
                  refine wpAnyH_ready (rs := [10]) (by kernel_rfl) (by simp) ?_
                  refine AllReadyH.cons rfl (fun K hK => ?_) AllReadyH.nil
                  rw [if_pos (by rfl)]
                  refine wp_app_one9 _ _ rfl w.heap.size _ xs rfl (HSa26.out.2.2.alloc _) wI25.heap.size ⟨⟨#[122, 122]⟩, bo27, nI24, ⟨#[]⟩⟩ rfl (Arr.fresh wI25 42 (seC ⟨⟨#[122, 122]⟩, bo27, nI24, ⟨#[]⟩⟩)) HL.out (by rw [World.size_alloc]; have := HSa26.out.2.1.size; omega) ?_
                  intro v4 w4 hv4 hg4
                  have HS4 := Lib.hid (sds_app HSa26.out hlt hv4 hg4)
                  clear hv4 hg4
                  refine hK.out _ _ trivial (fun hHeld => ?_)
                  clear hK K
                  (try simp only [Act.put, List.setIfInBounds_toArray, List.set_cons_zero, List.set_cons_succ])
                  obtain ⟨p4, k4, e4, hs4⟩ := HS4.out
                  subst e4
                  obtain ⟨ys, hys⟩ : ∃ ys, xs ++ [(⟨⟨#[122, 122]⟩, bo27, nI24, ⟨#[]⟩⟩ : SeL)] = ys := ⟨_, rfl⟩
                  rw [hys] at hs4 ⊢
                  have HYS := Lib.hid hys
                  clear hys
                  refine takeQ (i := 11) (k := 3) (v := .slice p4 ys.length k4) rfl (by rfl) (by kernel_rfl) (by kernel_rfl) (by kernel_rfl) (fun _ _ _ h => h) (by rfl) ?_ hHeld ?_
                  · intro w1 hSw; go_simp
                  (try simp only [Act.put, List.setIfInBounds_toArray, List.set_cons_zero, List.set_cons_succ])
                  refine wpAnyH_done (by kernel_rfl) ?_ _
                  exact ⟨⟨bo27, nI24, ys, p4, k4, HYS.out, rfl, hs4⟩, by simp only [putAll, Act.put, List.setIfInBounds_toArray, List.set_cons_zero, List.set_cons_succ]; rfl⟩
                · skip
                  rw [if_pos (by rfl)]
                  go_simp
                  go_fit (src_one B g 2 _ (by omega) HSa20.out.1)
                  rintro e wI29 ⟨_, rfl, ⟨bo31, rfl⟩, hSz, hgz⟩
                  have HSa30 := Lib.hid (HSa20.out.src hSz hgz hlt)
                  have HAa32 := Lib.hid (arr_grown9 HAa21.out hgz (by omega))
                  clear hSz hgz
                  refine hK.out _ _ trivial (fun hHeld => ?_)
                  clear hK K
                  (try simp only [Act.put, List.setIfInBounds_toArray, List.set_cons_zero, List.set_cons_succ])
                  refine wpAnyH_ready (rs := [5]) (by kernel_rfl) (by simp) ?_
                  refine AllReadyH.cons rfl (fun K hK => ?_) AllReadyH.nil
                  rw [if_pos (by rfl)]
                  go_simp
                  obtain ⟨nI33, hn4⟩ := four_at HAa32.out hj2
                  go_simp
                  clear hn4
                  refine hK.out _ _ trivial (fun hHeld => ?_)
                  clear hK K
                  (try simp only [Act.put, List.setIfInBounds_toArray, List.set_cons_zero, List.set_cons_succ])
                  refine takeQ (i := 8) (k := 85) (v := .agg #[.string ⟨#[122, 122]⟩, .bool bo31, .int .i64 nI33, .string ⟨#[]⟩]) rfl (by rfl) (by kernel_rfl) (by kernel_rfl) (by kernel_rfl) (fun _ _ _ h => h) (by rfl) ?_ hHeld ?_
                  · intro w1 hSw; go_simp
                  (try simp only [Act.put, List.setIfInBounds_toArray, List.set_cons_zero, List.set_cons_succ])
                  refine wpAnyH_ready (rs := [9]) (by kernel_rfl) (by simp) ?_
                  refine AllReadyH.cons rfl (fun K hK => ?_) AllReadyH.nil
                  rw [if_pos (by rfl)]
                  go_simp
                  refine hK.out _ _ trivial (fun hHeld => ?_)
                  clear hK K
                  (try simp only [Act.put, List.setIfInBounds_toArray, List.set_cons_zero, List.set_cons_succ])
                  refine wpAnyH_ready (rs := [10]) (by kernel_rfl) (by simp) ?_
                  refine AllReadyH.cons rfl (fun K hK => ?_) AllReadyH.nil
                  rw [if_pos (by rfl)]
                  refine wp_app_one9 _ _ rfl w.heap.size _ xs rfl (HSa30.out.2.2.alloc _) wI29.heap.size ⟨⟨#[122, 122]⟩, bo31, nI33, ⟨#[]⟩⟩ rfl (Arr.fresh wI29 42 (seC ⟨⟨#[122, 122]⟩, bo31, nI33, ⟨#[]⟩⟩)) HL.out (by rw [World.size_alloc]; have := HSa30.out.2.1.size; omega) ?_
                  intro v4 w4 hv4 hg4
                  have HS4 := Lib.hid (sds_app HSa30.out hlt hv4 hg4)
                  clear hv4 hg4
                  refine hK.out _ _ trivial (fun hHeld => ?_)
                  clear hK K
                  (try simp only [Act.put, List.setIfInBounds_toArray, List.set_cons_zero, List.set_cons_succ])
                  obtain ⟨p4, k4, e4, hs4⟩ := HS4.out
                  subst e4
                  obtain ⟨ys, hys⟩ : ∃ ys, xs ++ [(⟨⟨#[122, 122]⟩, bo31, nI33, ⟨#[]⟩⟩ : SeL)] = ys := ⟨_, rfl⟩
                  rw [hys] at hs4 ⊢
                  have HYS := Lib.hid hys
                  clear hys
                  refine takeQ (i := 11) (k := 3) (v := .slice p4 ys.length k4) rfl (by rfl) (by kernel_rfl) (by kernel_rfl) (by kernel_rfl) (fun _ _ _ h => h) (by rfl) ?_ hHeld ?_
                  · intro w1 hSw; go_simp
                  (try simp only [Act.put, List.setIfInBounds_toArray, List.set_cons_zero, List.set_cons_succ])
                  refine wpAnyH_done (by kernel_rfl) ?_ _
                  exact ⟨⟨bo31, nI33, ys, p4, k4, HYS.out, rfl, hs4⟩, by simp only [putAll, Act.put, List.setIfInBounds_toArray, List.set_cons_zero, List.set_cons_succ]; rfl⟩
              · skip
                rw [if_pos (by rfl)]
                go_simp
                go_fit (src_one B g 2 _ (by omega) HSa19.out.1)
                rintro e wI34 ⟨_, rfl, ⟨bo36, rfl⟩, hSz, hgz⟩
                have HSa35 := Lib.hid (HSa19.out.src hSz hgz hlt)
                clear hSz hgz
                refine hK.out _ _ trivial (fun hHeld => ?_)
                clear hK K
                (try simp only [Act.put, List.setIfInBounds_toArray, List.set_cons_zero, List.set_cons_succ])
                refine wpAnyH_ready (rs := [1]) (by kernel_rfl) (by simp) ?_
                refine AllReadyH.cons rfl (fun K hK => ?_) AllReadyH.nil
                rw [if_pos (by rfl)]
                go_simp
                have HSa37 := Lib.hid (HSa35.out.on ((Below.refl _ _).alloc (Nat.le_refl _) (.cells #[.int .i64 (-129), .int .i64 (-128), .int .i64 127, .int .i64 128] 2)))
                have HAa38 := Lib.hid (Arr.fresh wI34 2 [.int .i64 (-129), .int .i64 (-128), .int .i64 127, .int .i64 128])
                refine hK.out _ _ trivial (fun hHeld => ?_)
                clear hK K
                (try simp only [Act.put, List.setIfInBounds_toArray, List.set_cons_zero, List.set_cons_succ])
                have hbbI39 : w.heap.size ≤ wI34.heap.size := HSa35.out.2.1.size
                generalize wI34.heap.size = bI39 at HAa38 hbbI39 ⊢
                generalize wI34.alloc (.cells #[.int .i64 (-129), .int .i64 (-128), .int .i64 127, .int .i64 128] 2) = wI40 at HSa37 HAa38 ⊢
                refine takeQ (i := 4) (k := 81) (v := .pointer (some ⟨bI39, j2, none⟩)) rfl (by rfl) (by kernel_rfl) (by kernel_rfl) (by kernel_rfl) (fun _ _ _ h => h) (by rfl) ?_ hHeld ?_
                · intro w1 hSw; go_simp; (try (intro h9; exact absurd h9 (by omega)))
                (try simp only [Act.put, List.setIfInBounds_toArray, List.set_cons_zero, List.set_cons_succ])
                refine wpAnyH_ready (rs := [5]) (by kernel_rfl) (by simp) ?_
                refine AllReadyH.cons rfl (fun K hK => ?_) AllReadyH.nil
                rw [if_pos (by rfl)]
                go_simp
                obtain ⟨nI41, hn4⟩ := four_at HAa38.out hj2
                go_simp
                clear hn4
                refine hK.out _ _ trivial (fun hHeld => ?_)
                clear hK K
                (try simp only [Act.put, List.setIfInBounds_toArray, List.set_cons_zero, List.set_cons_succ])
                refine takeQ (i := 8) (k := 85) (v := .agg #[.string ⟨#[122, 122]⟩, .bool bo36, .int .i64 nI41, .string ⟨#[]⟩]) rfl (by rfl) (by kernel_rfl) (by kernel_rfl) (by kernel_rfl) (fun _ _ _ h => h) (by rfl) ?_ hHeld ?_
                · intro w1 hSw; go_simp
                (try simp only [Act.put, List.setIfInBounds_toArray, List.set_cons_zero, List.set_cons_succ])
                refine wpAnyH_ready (rs := [9]) (by kernel_rfl) (by simp) ?_
                refine AllReadyH.cons rfl (fun K hK => ?_) AllReadyH.nil
                rw [if_pos (by rfl)]
                go_simp
                refine hK.out _ _ trivial (fun hHeld => ?_)
                clear hK K
                (try simp only [Act.put, List.setIfInBounds_toArray, List.set_cons_zero, List.set_cons_succ])
                refine wpAnyH_ready (rs := [10]) (by kernel_rfl) (by simp) ?_
                refine AllReadyH.cons rfl (fun K hK => ?_) AllReadyH.nil
                rw [if_pos (by rfl)]
                refine wp_app_one9 _ _ rfl w.heap.size _ xs rfl (HSa37.out.2.2.alloc _) wI40.heap.size ⟨⟨#[122, 122]⟩, bo36, nI41, ⟨#[]⟩⟩ rfl (Arr.fresh wI40 42 (seC ⟨⟨#[122, 122]⟩, bo36, nI41, ⟨#[]⟩⟩)) HL.out (by rw [World.size_alloc]; have := HSa37.out.2.1.size; omega) ?_
                intro v4 w4 hv4 hg4
                have HS4 := Lib.hid (sds_app HSa37.out hlt hv4 hg4)
                clear hv4 hg4
                refine hK.out _ _ trivial (fun hHeld => ?_)
                clear hK K
                (try simp only [Act.put, List.setIfInBounds_toArray, List.set_cons_zero, List.set_cons_succ])
                obtain ⟨p4, k4, e4, hs4⟩ := HS4.out
                subst e4
                obtain ⟨ys, hys⟩ : ∃ ys, xs ++ [(⟨⟨#[122, 122]⟩, bo36, nI41, ⟨#[]⟩⟩ : SeL)] = ys := ⟨_, rfl⟩
                rw [hys] at hs4 ⊢
                have HYS := Lib.hid hys
                clear hys
                refine takeQ (i := 11) (k := 3) (v := .slice p4 ys.length k4) rfl (by rfl) (by kernel_rfl) (by kernel_rfl) (by kernel_rfl) (fun _ _ _ h => h) (by rfl) ?_ hHeld ?_
                · intro w1 hSw; go_simp
                (try simp only [Act.put, List.setIfInBounds_toArray, List.set_cons_zero, List.set_cons_succ])
                refine wpAnyH_done (by kernel_rfl) ?_ _
                exact ⟨⟨bo36, nI41, ys, p4, k4, HYS.out, rfl, hs4⟩, by simp only [putAll, Act.put, List.setIfInBounds_toArray, List.set_cons_zero, List.set_cons_succ]; rfl⟩
          · intro vs W hR
            obtain ⟨o, n, ys, p4, k4, hys, e4, hs4⟩ := hR
            have HYS := Lib.hid hys
            have HS5 := Lib.hid hs4
            simp only [putAll, Act.put, List.foldl, List.setIfInBounds_toArray, List.set_cons_zero, List.set_cons_succ, e4]
            clear e4 hs4 hys
            go_wp2_with fail
            go_ret
            obtain rfl := HYS.out
            exact ⟨_, p4, k4, rfl, HS5.out, by have := HW.out.1; rw [List.length_append]; show _ + 1 ≤ 6; omega, fun x hx => by
              rcases List.mem_append.1 hx with hx | hx
              · exact HW.out.2 x hx
              · obtain rfl := List.mem_singleton.1 hx
                exact ⟨by show (2 : Nat) ≤ 100; omega, by show (0 : Nat) ≤ 100; omega⟩⟩
          -- R23
        · go_wp2_with (at_builtin; refine wpList_plain rfl fun K hK => ?_; refine wp_app_one9 _ _ rfl w.heap.size _ xs rfl (HS3.out.2.2.alloc _) w3.heap.size ⟨⟨#[122, 122]⟩, true, 0, ⟨#[110, 111]⟩⟩ rfl (Arr.fresh w3 42 (seC ⟨⟨#[122, 122]⟩, true, 0, ⟨#[110, 111]⟩⟩)) HL.out (by rw [World.size_alloc]; have := HS3.out.2.1.size; omega) ?_; intro v4 w4 hv4 hg4; have HS4 := Lib.hid (sds_app HS3.out hlt hv4 hg4); clear hv4 hg4; obtain ⟨p4, k4, e4, hs4⟩ := HS4.out; subst e4; have HS5 := Lib.hid hs4; clear hs4 HS4; refine hK _ _ ?_)
          go_ret
          exact ⟨_, p4, k4, by rw [List.length_append]; rfl, HS5.out, by have := HW.out.1; rw [List.length_append]; show _ + 1 ≤ 6; omega, fun x hx => by
            rcases List.mem_append.1 hx with hx | hx
            · exact HW.out.2 x hx
            · obtain rfl := List.mem_singleton.1 hx
              exact ⟨by decide, by decide⟩⟩
end Go.Proofs.Ytkdljhmenejckaa

namespace Go.Proofs.Ytkdljhmenejckaa
set_option linter.unusedSimpArgs false
set_option linter.unusedVariables false
open Go.RowKit Go.Joins

/-- Drawn sessions. -/
def SeD (B : Nat) (e : Ending) (W : World) : Prop := ∃ xs p k, e = .returned (.slice p xs.length k) ∧ OwnC seC W B 42 4 (.slice p xs.length k) xs ∧ xs.length ≤ 6 ∧ ∀ x ∈ xs, x.r.size ≤ 100 ∧ x.s.size ≤ 100
set_option maxRecDepth 100000 in
set_option maxHeartbeats 1000000 in
theorem draw_best (a : Option Addr) (len cap : Nat) (w : World) (hlen : len ≤ 1048576) (hrow : SrcRow w w.heap.size a len) :
    Calls Try.prog 29 #[.slice a len cap] w fun e w' => SeD w.heap.size e w' ∧ Below w.heap.size w w' := by
  have HR := Lib.hid hrow
  clear hrow
  go_enter Try.func29, Try.ntmps29
  go_wp2_with fail
  refine (src_source a len cap _ hlen HR.out).mono ?_
  rintro e w1 ⟨rfl, hS1, hb1⟩
  have HS1 := Lib.hid hS1
  have HB1 := Lib.hid hb1
  clear hS1 hb1
  go_wp2_with fail
  refine (draw_sess w.heap.size w.heap.size w1 HS1.out).mono ?_
  rintro e w2 ⟨xs, p, k, rfl, hs, hl, hw⟩
  have HB2 := Lib.hid (below_grown HB1.out HB1.out.size hs.2.1 (Nat.le_refl _))
  have HO2 := Lib.hid (hs.2.2.mono HB1.out.size)
  clear hs
  go_wp2_with fail
  go_ret
  exact ⟨⟨xs, p, k, rfl, HO2.out, hl, hw⟩, HB2.out⟩
end Go.Proofs.Ytkdljhmenejckaa

namespace Go.Proofs.Ytkdljhmenejckaa
set_option linter.unusedSimpArgs false
set_option linter.unusedVariables false
open Go.RowKit Go.Joins

/-- A row of strings of the call's own. -/
def OwnT (w : World) (B : Nat) (v : Value) (ps : List ByteArray) : Prop := w.ownsRow B 9 1 v ps.length (ps.map Value.string)
theorem own_on9 {w w' : World} {B : Nat} {v : Value} {ps : List ByteArray} (h : OwnT w B v ps) (hb : Below w.heap.size w w') : OwnT w' B v ps := ownsRow_on h hb
theorem info_str9 : (Try.prog.info? 9).map (fun i => (i.zero, i.size, i.bytes)) = some (some (.string ⟨#[]⟩), 1, 16) := by kernel_rfl
theorem wp_app_str9 {o : Oper} {a : Act} {w : World} {K : Act → World → Prop} {Q : Exit → Act → World → Prop} (s x : Operand)
    (ho : o.op = Op.call { callee := Callee.builtin Builtin.append, args := #[s, x], argTypes := #[38, 38] })
    (B : Nat) (v : Value) (ps : List ByteArray) (hs : a.eval s = v) (hown : OwnT w B v ps) (g : Nat) (y : ByteArray) (hx : a.eval x = .slice (some ⟨g, 0, none⟩) 1 1)
    (hc : w.cell? ⟨g, 0, none⟩ = some (.string y)) (hmax : ps.length ≤ 2000000) (hB : B ≤ w.heap.size)
    (h : ∀ v' w', OwnT w' B v' (ps ++ [y]) → w.grownBy w' v.ownBlock → (∀ k, v.ownBlock = some k → B ≤ k ∧ k < w.heap.size) → K (a.put o.dst v') w') : o.wp Try.prog a w K Q := by
  obtain ⟨i0, hi, hz0, hz1, hz2⟩ := info_parts info_str9
  obtain ⟨v', w', hr, h1, h2, _⟩ := run_append_own (P := Try.prog) w B 38 o.type 9 i0 (.string ⟨#[]⟩) 1 16 Try.underlying38 hi hz0 hz1 hz2 rfl (by decide) v ps.length (ps.map Value.string) hown ⟨g, 0, none⟩ 1 1 [.string y]
    rfl (fun j u hj => by
      have hj' : j = 0 := by have := (List.getElem?_eq_some_iff.1 hj).1; simp at this; omega
      subst hj'
      rw [show (⟨g, 0, none⟩ : Addr).add 0 = ⟨g, 0, none⟩ by unfold Addr.add; split <;> simp_all, hc, ← hj]
      rfl) (fun u hu => by simp at hu; subst hu; rfl) (by unfold maxLen; omega) (by omega) hB
  unfold Oper.wp execOp
  simp only [ho, resolve, invoke, builtin, Sem.run_bind, Sem.run_pure, Result.andThen_ok, List.map_toArray, List.map_cons, List.map_nil, hs, hx, hr]
  refine h v' w' ?_ h2 (fun k hk => World.ownsRow.lt hown k hk)
  unfold OwnT
  rw [List.length_append, List.map_append]
  exact h1
end Go.Proofs.Ytkdljhmenejckaa

namespace Go.Proofs.Ytkdljhmenejckaa
set_option linter.unusedSimpArgs false
set_option linter.unusedVariables false
open Go.RowKit

def NoOn (xs : List SeL) (k : Nat) : Prop := ∀ i (h : i < xs.length), i < k → xs[i].o = false
theorem noOn_zero (xs : List SeL) : NoOn xs 0 := fun i _ h => absurd h (Nat.not_lt_zero _)
theorem noOn_succ {xs : List SeL} {k : Nat} (h : NoOn xs k) (hk : k < xs.length) (h1 : xs[k].o = false) : NoOn xs (k + 1) := by
  intro i hi hlt
  by_cases e : i = k
  · subst e; exact h1
  · exact h i hi (by omega)
theorem any_no {xs : List SeL} {k : Nat} (h : NoOn xs k) (hk : ¬ k < xs.length) : anyS xs = false := by
  unfold anyS
  rw [List.any_eq_false]
  intro x hx
  obtain ⟨i, hi, rfl⟩ := List.mem_iff_getElem.1 hx
  rw [h i hi (by omega)]
  decide
theorem any_yes {xs : List SeL} {k : Nat} (hk : k < xs.length) (h : xs[k].o = true) : anyS xs = true := by
  unfold anyS
  exact List.any_eq_true.2 ⟨xs[k], List.getElem_mem hk, h⟩
theorem impl_ison (x : SeL) (w : World) : Calls Try.prog 72 #[seV x] w fun e w' => e = .returned (.bool x.o) ∧ Below w.heap.size w w' := by
  unfold seV
  go_enter Try.func72, Try.ntmps72
  go_wp2
  go_ret
  exact ⟨rfl, (Below.refl _ _).alloc (Nat.le_refl _) _⟩
set_option maxRecDepth 100000 in
set_option maxHeartbeats 1000000 in
theorem impl_indexf (xs : List SeL) (p : Option Addr) (c : Nat) (w : World) (hn : xs.length ≤ 1048576) (hR : RowC seC 4 w p xs) :
    Calls Try.prog 101 #[.slice p xs.length c, .func (.func 72) #[] #[]] w fun e w' => (∃ z, e = .returned (.int .i64 z) ∧ decide (0 ≤ z) = anyS xs) ∧ Below w.heap.size w w' := by
  obtain ⟨n, hxn⟩ : ∃ n, xs.length = n := ⟨_, rfl⟩
  have HP := Lib.hid (fun W (h : Below w.heap.size w W) => hR.on h)
  have HN := Lib.hid hxn
  rw [hxn] at hn ⊢
  clear hR hxn
  go_enter Try.func101, Try.ntmps101
  go_wp2
  go_loopw [8] (fun iq wr => ∃ k : Nat, k ≤ n ∧ iq = .int .i64 k ∧ NoOn xs k ∧ Below w.heap.size w wr) (fun i _ => n - (intOf i).toNat)
  case atStart => exact ⟨0, Nat.zero_le _, rfl, noOn_zero xs, Below.refl _ _⟩
  case round =>
    obtain ⟨k, hk, rfl, hA, hb⟩ := hrel
    have HA := Lib.hid hA
    have HB := Lib.hid hb
    clear hA
    by_cases hlt : k < n
    · have hlt1 : k < xs.length := by rw [HN.out]; exact hlt
      obtain ⟨g, rfl, hg, a0, a1, a2, a3⟩ := row_se4 (HP.out _ hb) hlt1
      obtain ⟨x, hx⟩ : ∃ x, xs[k] = x := ⟨_, rfl⟩
      rw [hx] at a0 a1 a2 a3
      obtain ⟨r, o, p, s⟩ := x
      have i3 := fun W => impl_ison ⟨r, o, p, s⟩ W
      unfold seV at i3
      have HX : Hid (xs[k].o = o) := Lib.hid (by rw [hx])
      clear hb hx
      dsimp only at a0 a1 a2 a3 i3
      cases o
      · go_wp2_with (go_at_call 72; go_fit (i3 _); rintro e w2 ⟨rfl, hb2⟩)
        go_roundw
        case rel => exact ⟨k + 1, by omega, by go_num, noOn_succ HA.out hlt1 HX.out, HB.out.trans (hb2.mono HB.out.size)⟩
        case measure => simp [intOf]; omega
      · go_wp2_with (go_at_call 72; go_fit (i3 _); rintro e w2 ⟨rfl, hb2⟩)
        go_ret
        exact ⟨⟨_, rfl, by rw [any_yes hlt1 HX.out]; simp⟩, HB.out.trans (hb2.mono HB.out.size)⟩
    · have HL := Lib.hid (any_no HA.out (by rw [HN.out]; exact hlt))
      clear hb
      go_wp2
      go_ret
      exact ⟨⟨_, rfl, by rw [HL.out]; decide⟩, HB.out⟩
set_option maxHeartbeats 1000000 in
theorem impl_contains (xs : List SeL) (p : Option Addr) (c : Nat) (w : World) (hn : xs.length ≤ 1048576) (hR : RowC seC 4 w p xs) :
    Calls Try.prog 71 #[.slice p xs.length c, .func (.func 72) #[] #[]] w fun e w' => e = .returned (.bool (anyS xs)) ∧ Below w.heap.size w w' := by
  have i1 := impl_indexf xs p c w hn hR
  clear hR
  go_enter Try.func71, Try.ntmps71
  go_wp2_with (go_at_call 101; go_fit i1; rintro e w2 ⟨⟨z, rfl, hz⟩, hb⟩; have HZ := Lib.hid hz; clear hz)
  go_ret
  exact ⟨ret_bool HZ.out, hb⟩
set_option maxHeartbeats 1000000 in
theorem impl_any (xs : List SeL) (p : Option Addr) (c : Nat) (w : World) (hn : xs.length ≤ 1048576) (hw : ∀ x ∈ xs, x.r.size ≤ maxLen) (hR : RowC seC 4 w p xs) :
    Calls Try.prog 22 #[.slice p xs.length c] w fun e w' => e = .returned (.bool (anyR xs)) ∧ Below w.heap.size w w' := by
  have i1 := impl_seright xs p c w hn hw hR
  have i2 := fun W h => impl_contains xs p c W hn h
  have HR := Lib.hid (fun W (h : Below w.heap.size w W) => hR.on h)
  unfold anyR
  obtain ⟨b1, h1⟩ : ∃ b, okB xs = b := ⟨_, rfl⟩
  obtain ⟨b2, h2⟩ : ∃ b, anyS xs = b := ⟨_, rfl⟩
  rw [h1] at i1
  rw [h2] at i2
  rw [h1, h2]
  clear h1 h2 hR hw
  cases b1
  · go_enter Try.func22, Try.ntmps22
    go_wp2_with (go_at_call 27; go_fit i1; rintro e w2 ⟨rfl, hb⟩)
    go_ret
    exact ⟨ret_bool (by simp), hb⟩
  · go_enter Try.func22, Try.ntmps22
    go_wp2_with (first
      | (go_at_call 27; go_fit i1; rintro e w2 ⟨rfl, hb⟩; have HB := Lib.hid hb; clear hb)
      | (go_at_call 71; go_fit (i2 _ (HR.out _ HB.out)); rintro e w3 ⟨rfl, hb2⟩))
    go_ret
    exact ⟨ret_bool (by simp), HB.out.trans (hb2.mono HB.out.size)⟩
set_option maxRecDepth 100000 in
set_option maxHeartbeats 1000000 in
theorem spec_any (xs : List SeL) (p : Option Addr) (c : Nat) (w : World) (hn : xs.length ≤ 1048576) (hw : ∀ x ∈ xs, x.r.size ≤ maxLen) (hR : RowC seC 4 w p xs) :
    Calls Try.prog 26 #[.slice p xs.length c] w fun e w' => e = .returned (.bool (anyR xs)) ∧ Below w.heap.size w w' := by
  have i1 := spec_seright xs p c w hn hw hR
  obtain ⟨n, hxn⟩ : ∃ n, xs.length = n := ⟨_, rfl⟩
  have HP := Lib.hid (fun W (h : Below w.heap.size w W) => hR.on h)
  have HN := Lib.hid hxn
  unfold anyR
  obtain ⟨b1, h1⟩ : ∃ b, okB xs = b := ⟨_, rfl⟩
  rw [h1] at i1 ⊢
  rw [hxn] at hn i1 ⊢
  obtain ⟨Z, hZ⟩ : ∃ b, anyS xs = b := ⟨_, rfl⟩
  have HZ := Lib.hid hZ
  rw [hZ]
  clear hR hxn h1 hZ hw
  cases b1
  · go_enter Try.func26, Try.ntmps26
    go_wp2_with (go_at_call 28; go_fit i1; rintro e w2 ⟨rfl, hb⟩)
    go_ret
    exact ⟨ret_bool (by simp), hb⟩
  go_enter Try.func26, Try.ntmps26
  go_wp2_with (go_at_call 28; go_fit i1; rintro e w1 ⟨rfl, hb⟩; have HB1 := Lib.hid hb; clear hb)
  go_loopw [3] (fun iq wr => ∃ k : Nat, k ≤ n ∧ iq = .int .i64 k ∧ NoOn xs k ∧ Below w.heap.size w wr) (fun i _ => n - (intOf i).toNat)
  case atStart => exact ⟨0, Nat.zero_le _, rfl, noOn_zero xs, HB1.out⟩
  case round =>
    obtain ⟨k, hk, rfl, hA, hb⟩ := hrel
    have HA := Lib.hid hA
    have HB := Lib.hid hb
    clear hA
    by_cases hlt : k < n
    · have hlt1 : k < xs.length := by rw [HN.out]; exact hlt
      obtain ⟨g, rfl, hg, a0, a1, a2, a3⟩ := row_se4 (HP.out _ hb) hlt1
      obtain ⟨x, hx⟩ : ∃ x, xs[k] = x := ⟨_, rfl⟩
      rw [hx] at a0 a1 a2 a3
      obtain ⟨r, o, p, s⟩ := x
      have HX : Hid (xs[k].o = o) := Lib.hid (by rw [hx])
      clear hb hx
      dsimp only at a0 a1 a2 a3
      cases o
      · go_wp2
        go_roundw
        case rel => exact ⟨k + 1, by omega, by go_num, noOn_succ HA.out hlt1 HX.out, HB.out⟩
        case measure => simp [intOf]; omega
      · have HL : Hid (Z = true) := Lib.hid (by rw [← HZ.out]; exact any_yes hlt1 HX.out)
        go_wp2
        go_ret
        exact ⟨ret_bool (by rw [HL.out]; simp), HB.out⟩
    · have HL : Hid (Z = false) := Lib.hid (by rw [← HZ.out]; exact any_no HA.out (by rw [HN.out]; exact hlt))
      clear hb
      go_wp2
      go_ret
      exact ⟨ret_bool (by rw [HL.out]; simp), HB.out⟩
end Go.Proofs.Ytkdljhmenejckaa

namespace Go.Proofs.Ytkdljhmenejckaa
set_option linter.unusedSimpArgs false
set_option linter.unusedVariables false
open Go.RowKit Go.Joins

/-- The greatest priority, or m. -/
def mxA (m : Int) : List SeL → Int
  | [] => m
  | x :: l => mxA (if m < x.p then x.p else m) l
theorem mx_eq (a b : Int) : max a b = if a < b then b else a := by split <;> omega
theorem mx_ge : ∀ (l : List SeL) (m : Int), m ≤ mxA m l
  | [], m => Int.le_refl _
  | x :: l, m => by
    have := mx_ge l (if m < x.p then x.p else m)
    show m ≤ mxA (if m < x.p then x.p else m) l
    split at this <;> rename_i h
    · rw [if_pos h]; omega
    · rw [if_neg h]; exact this
theorem mx_all : ∀ (l : List SeL) (m : Int), ∀ x ∈ l, x.p ≤ mxA m l
  | x :: l, m, y, hy => by
    show y.p ≤ mxA (if m < x.p then x.p else m) l
    rcases List.mem_cons.1 hy with rfl | hy
    · have := mx_ge l (if m < y.p then y.p else m)
      by_cases h : m < y.p
      · rw [if_pos h] at this ⊢; exact this
      · rw [if_neg h] at this ⊢; omega
    · exact mx_all l _ y hy
theorem mx_is : ∀ (l : List SeL) (m : Int), mxA m l = m ∨ ∃ x ∈ l, x.p = mxA m l
  | [], m => .inl rfl
  | x :: l, m => by
    show mxA (if m < x.p then x.p else m) l = m ∨ ∃ y ∈ x :: l, y.p = mxA (if m < x.p then x.p else m) l
    rcases mx_is l (if m < x.p then x.p else m) with h | ⟨y, hy, h⟩
    · by_cases hm : m < x.p
      · rw [if_pos hm] at h ⊢
        exact .inr ⟨x, List.mem_cons_self .., h.symm⟩
      · rw [if_neg hm] at h ⊢
        exact .inl h
    · exact .inr ⟨y, List.mem_cons_of_mem _ hy, h⟩
/-- The resources of the sessions that are on and have this priority. -/
def bestL (M : Int) (xs : List SeL) : List ByteArray := (xs.filter (fun x => x.o && x.p == M)).map (fun x => x.r)
noncomputable def bestR (xs : List SeL) : List ByteArray := if okB xs = true then bestL (mxA 0 xs) xs else []
theorem best_succ (M : Int) {xs : List SeL} {k : Nat} (hk : k < xs.length) : bestL M (xs.take (k + 1)) = if (xs[k].o && xs[k].p == M) = true then bestL M (xs.take k) ++ [xs[k].r] else bestL M (xs.take k) := by
  rw [List.take_succ_eq_append_getElem hk]
  unfold bestL
  rw [List.filter_append, List.map_append]
  cases h : (xs[k].o && xs[k].p == M)
  · simp [List.filter_cons, h]
  · simp [List.filter_cons, h]
theorem best_len (M : Int) (xs : List SeL) : (bestL M xs).length ≤ xs.length := by unfold bestL; rw [List.length_map]; exact List.length_filter_le _ _
theorem best_none {M : Int} {xs : List SeL} (h : ∀ x ∈ xs, x.o = true → x.p < M) : bestL M xs = [] := by
  unfold bestL
  rw [List.map_eq_nil_iff, List.filter_eq_nil_iff]
  intro x hx
  simp only [Bool.and_eq_true, beq_iff_eq, not_and]
  intro ho he
  have := h x hx ho
  omega
/-- A greatest priority of those that are on is that of all. -/
theorem mx_same {xs : List SeL} {m : Int} (hz : ∀ x ∈ xs, x.o = false → x.p = 0) (h0 : 0 ≤ m) (h1 : ∀ x ∈ xs, x.o = true → x.p ≤ m) (h2 : m = 0 ∨ ∃ x ∈ xs, x.p = m) : m = mxA 0 xs := by
  have g0 := mx_ge xs 0
  have g1 := mx_all xs 0
  have a : m ≤ mxA 0 xs := by
    rcases h2 with h | ⟨x, hx, h⟩
    · omega
    · have := g1 x hx; omega
  have b : mxA 0 xs ≤ m := by
    rcases mx_is xs 0 with h | ⟨x, hx, h⟩
    · omega
    · cases ho : x.o
      · have := hz x hx ho; omega
      · have := h1 x hx ho; omega
  omega
theorem off_zero {xs : List SeL} (h : okB xs = true) : ∀ x ∈ xs, x.o = false → x.p = 0 := by
  intro x hx ho
  obtain ⟨i, hi, rfl⟩ := List.mem_iff_getElem.1 hx
  have h2 := (okB_iff.1 h).2.2 i hi hi
  unfold seB at h2
  rw [ho] at h2
  simp only [Bool.false_or, Bool.and_eq_true, decide_eq_true_eq] at h2
  exact h2.1.1.1.1
theorem clo_best (x : SeL) (b : Nat) (M : Int) (w : World) (hc : w.cell? ⟨b, 0, none⟩ = some (.int .i64 M)) :
    Calls Try.prog 107 #[seV x, .pointer (some ⟨b, 0, none⟩)] w fun e w' => e = .returned (.bool (x.o && x.p == M)) ∧ Below w.heap.size w w' := by
  obtain ⟨r, o, p, s⟩ := x
  unfold seV
  have hlt : b < w.heap.size := block_lt_of_cell hc
  have hc2 : (w.alloc (.cells #[.string r, .bool o, .int .i64 p, .string s] 42)).cell? ⟨b, 0, none⟩ = some (.int .i64 M) := (((Below.refl w.heap.size w).alloc (Nat.le_refl _) _).cell (p := ⟨b, 0, none⟩) hlt).trans hc
  obtain ⟨bb, hbb⟩ : ∃ bb, (p == M) = bb := ⟨_, rfl⟩
  dsimp only
  rw [hbb]
  cases o
  · go_enter Try.func107, Try.ntmps107
    go_wp2
    go_ret
    exact ⟨rfl, (Below.refl _ _).alloc (Nat.le_refl _) _⟩
  · go_enter Try.func107, Try.ntmps107
    go_wp2
    go_ret
    exact ⟨rfl, (Below.refl _ _).alloc (Nat.le_refl _) _⟩
set_option maxRecDepth 100000 in
set_option maxHeartbeats 2000000 in
theorem impl_besttest (xs : List SeL) (p0 : Option Addr) (c : Nat) (w : World) (hn : xs.length ≤ 1048576) (hR : RowC seC 4 w p0 xs) :
    Calls Try.prog 78 #[.slice p0 xs.length c] w fun e w' => e = .returned (.func (.func 107) #[] #[.pointer (some ⟨w.heap.size, 0, none⟩)]) ∧ w'.cell? ⟨w.heap.size, 0, none⟩ = some (.int .i64 (mxA 0 xs)) ∧ Below w.heap.size w w' := by
  obtain ⟨n, hxn⟩ : ∃ n, xs.length = n := ⟨_, rfl⟩
  have HP := Lib.hid (fun W (h : Below w.heap.size w W) => hR.on h)
  have HN := Lib.hid hxn
  obtain ⟨Z, hZ⟩ : ∃ Z, mxA 0 xs = Z := ⟨_, rfl⟩
  have HZ0 : Hid (mxA 0 (xs.drop 0) = Z) := Lib.hid hZ
  rw [hxn] at hn ⊢
  rw [hZ]
  clear hR hxn hZ
  have HA0 : Hid (Arr (w.alloc (.cells #[.int .i64 0] 2)) w.heap.size 2 [.int .i64 0] ∧ Below w.heap.size w (w.alloc (.cells #[.int .i64 0] 2))) := Lib.hid ⟨Arr.fresh w _ [.int .i64 0], (Below.refl _ _).alloc (Nat.le_refl _) _⟩
  go_enter Try.func78, Try.ntmps78
  go_wp2
  go_loopw [7] (fun iq wr => ∃ (k : Nat) (m : Int), k ≤ n ∧ iq = .int .i64 k ∧ mxA m (xs.drop k) = Z ∧ Arr wr w.heap.size 2 [.int .i64 m] ∧ Below w.heap.size w wr) (fun i _ => n - (intOf i).toNat)
  case atStart => exact ⟨0, 0, Nat.zero_le _, rfl, HZ0.out, HA0.out.1, HA0.out.2⟩
  case round =>
    obtain ⟨k, m, hk, rfl, hz, hA, hb⟩ := hrel
    have HZ := Lib.hid hz
    have HA := Lib.hid hA
    have HB := Lib.hid hb
    clear hz hA
    by_cases hlt : k < n
    · have hlt1 : k < xs.length := by rw [HN.out]; exact hlt
      have hdr : xs.drop k = xs[k] :: xs.drop (k + 1) := List.drop_eq_getElem_cons hlt1
      obtain ⟨g, rfl, hg, a0, a1, a2, a3⟩ := row_se4 (HP.out _ hb) hlt1
      obtain ⟨x, hx⟩ : ∃ x, xs[k] = x := ⟨_, rfl⟩
      rw [hx] at a0 a1 a2 a3 hdr
      obtain ⟨m2, hm2⟩ : ∃ m2, (if m < x.p then x.p else m) = m2 := ⟨_, rfl⟩
      have HZ2 : Hid (mxA m2 (xs.drop (k + 1)) = Z) := Lib.hid (by have := HZ.out; rw [hdr] at this; rw [← hm2]; exact this)
      have HMX := Lib.hid hm2
      have q1 : (0 : Int) ≤ (k : Int) := by omega
      have q2 : (k : Int) < (n : Int) := by omega
      clear hb hx hdr
      go_wp2
      refine wp_region_held_drew (S := fun _ => True) (by kernel_rfl) trivial (fun hHeld => ?_)
      have HAd : Hid (Arr wr.drew w.heap.size 2 [.int .i64 m]) := Lib.hid HA.out
      have HBd : Hid (Below w.heap.size w wr.drew) := Lib.hid HB.out.drew
      replace a2 : wr.drew.cell? ⟨g, k * 4 + 2, none⟩ = some (.int .i64 x.p) := a2
      generalize wr.drew = Wd at hHeld HAd HBd a2 ⊢
      clear a0 a1 a3 HA HB
      have c0 : Wd.cell? ⟨w.heap.size, 0, none⟩ = some (.int .i64 m) := HAd.out.cell 0
      have f0 : Wd.frozen? ⟨w.heap.size, 0, none⟩ = false := HAd.out.free 0
      refine takeQ (i := 1) (k := 11) (v := .slice (some ⟨g, 0, none⟩) n c) rfl (by rfl) (by kernel_rfl) (by kernel_rfl) (by kernel_rfl) (fun _ _ _ h => h) (by rfl) ?_ hHeld ?_
      · intro w1 hSw; go_simp
      (try simp only [Act.put, List.setIfInBounds_toArray, List.set_cons_zero, List.set_cons_succ])
      refine takeQ (i := 2) (k := 12) (v := .int .i64 (k : Int)) rfl (by rfl) (by kernel_rfl) (by kernel_rfl) (by kernel_rfl) (fun _ _ _ h => h) (by rfl) ?_ hHeld ?_
      · intro w1 hSw; go_simp
      (try simp only [Act.put, List.setIfInBounds_toArray, List.set_cons_zero, List.set_cons_succ])
      refine takeQ (i := 3) (k := 13) (v := .pointer (some ⟨g, k * 4, none⟩)) rfl (by rfl) (by kernel_rfl) (by kernel_rfl) (by kernel_rfl) (fun _ _ _ h => h) (by rfl) ?_ hHeld ?_
      · intro w1 hSw; go_simp
      (try simp only [Act.put, List.setIfInBounds_toArray, List.set_cons_zero, List.set_cons_succ])
      refine takeQ (i := 4) (k := 14) (v := .pointer (some ⟨g, k * 4 + 2, none⟩)) rfl (by rfl) (by kernel_rfl) (by kernel_rfl) (by kernel_rfl) (fun _ _ _ h => h) (by rfl) ?_ hHeld ?_
      · intro w1 hSw; go_simp
      (try simp only [Act.put, List.setIfInBounds_toArray, List.set_cons_zero, List.set_cons_succ])
      refine wpAnyH_ready (rs := [0, 5]) (by kernel_rfl) (by simp) ?_
      refine AllReadyH.cons rfl (fun K hK => ?_) (AllReadyH.cons rfl (fun K hK => ?_) AllReadyH.nil)
      · rw [if_pos (by rfl)]
        go_simp
        refine hK.out _ _ trivial (fun hHeld => ?_)
        clear hK K
        (try simp only [Act.put, List.setIfInBounds_toArray, List.set_cons_zero, List.set_cons_succ])
        refine wpAnyH_ready (rs := [5]) (by kernel_rfl) (by simp) ?_
        refine AllReadyH.cons rfl (fun K hK => ?_) AllReadyH.nil
        rw [if_pos (by rfl)]
        go_simp
        refine hK.out _ _ trivial (fun hHeld => ?_)
        clear hK K
        (try simp only [Act.put, List.setIfInBounds_toArray, List.set_cons_zero, List.set_cons_succ])
        refine takeQ (i := 6) (k := 16) (v := .int .i64 m2) rfl (by rfl) (by kernel_rfl) (by kernel_rfl) (by kernel_rfl) (fun _ _ _ h => h) (by rfl) ?_ hHeld ?_
        · intro w1 hSw; go_simp; exact (mx_eq m x.p).trans HMX.out
        (try simp only [Act.put, List.setIfInBounds_toArray, List.set_cons_zero, List.set_cons_succ])
        refine wpAnyH_ready (rs := [7]) (by kernel_rfl) (by simp) ?_
        refine AllReadyH.cons rfl (fun K hK => ?_) AllReadyH.nil
        rw [if_pos (by rfl)]
        go_simp
        refine hK.out _ _ trivial (fun hHeld => ?_)
        clear hK K
        (try simp only [Act.put, List.setIfInBounds_toArray, List.set_cons_zero, List.set_cons_succ])
        refine wpAnyH_done (by kernel_rfl) ?_ _
        go_wp2
        go_roundw
        case rel => exact ⟨k + 1, m2, by omega, by go_num, HZ2.out, HAd.out.put 0 (.int .i64 m2), HBd.out.setCell (p := ⟨w.heap.size, 0, none⟩) (Nat.le_refl _) _⟩
        case measure => simp [intOf]; omega
      · rw [if_pos (by rfl)]
        go_simp
        refine hK.out _ _ trivial (fun hHeld => ?_)
        clear hK K
        (try simp only [Act.put, List.setIfInBounds_toArray, List.set_cons_zero, List.set_cons_succ])
        refine wpAnyH_ready (rs := [0]) (by kernel_rfl) (by simp) ?_
        refine AllReadyH.cons rfl (fun K hK => ?_) AllReadyH.nil
        rw [if_pos (by rfl)]
        go_simp
        refine hK.out _ _ trivial (fun hHeld => ?_)
        clear hK K
        (try simp only [Act.put, List.setIfInBounds_toArray, List.set_cons_zero, List.set_cons_succ])
        refine takeQ (i := 6) (k := 16) (v := .int .i64 m2) rfl (by rfl) (by kernel_rfl) (by kernel_rfl) (by kernel_rfl) (fun _ _ _ h => h) (by rfl) ?_ hHeld ?_
        · intro w1 hSw; go_simp; exact (mx_eq m x.p).trans HMX.out
        (try simp only [Act.put, List.setIfInBounds_toArray, List.set_cons_zero, List.set_cons_succ])
        refine wpAnyH_ready (rs := [7]) (by kernel_rfl) (by simp) ?_
        refine AllReadyH.cons rfl (fun K hK => ?_) AllReadyH.nil
        rw [if_pos (by rfl)]
        go_simp
        refine hK.out _ _ trivial (fun hHeld => ?_)
        clear hK K
        (try simp only [Act.put, List.setIfInBounds_toArray, List.set_cons_zero, List.set_cons_succ])
        refine wpAnyH_done (by kernel_rfl) ?_ _
        go_wp2
        go_roundw
        case rel => exact ⟨k + 1, m2, by omega, by go_num, HZ2.out, HAd.out.put 0 (.int .i64 m2), HBd.out.setCell (p := ⟨w.heap.size, 0, none⟩) (Nat.le_refl _) _⟩
        case measure => simp [intOf]; omega
    · have HF : Hid (m = Z) := Lib.hid (by have := HZ.out; rw [List.drop_eq_nil_of_le (by rw [HN.out]; omega)] at this; exact this)
      clear hb
      go_wp2
      go_ret
      exact ⟨rfl, (HA.out.cell 0).trans (by rw [HF.out]; rfl), HB.out⟩
end Go.Proofs.Ytkdljhmenejckaa

namespace Go.Proofs.Ytkdljhmenejckaa
set_option linter.unusedSimpArgs false
set_option linter.unusedVariables false
open Go.RowKit Go.Joins

theorem str_flat : ∀ ps : List ByteArray, ps.flatMap strC = ps.map Value.string
  | [] => rfl
  | p :: ps => by rw [List.flatMap_cons, List.map_cons, str_flat ps]; rfl
theorem ownT_C {w : World} {B : Nat} {v : Value} {ps : List ByteArray} (h : OwnT w B v ps) : OwnC strC w B 9 1 v ps := by
  unfold OwnC
  rw [str_flat]
  exact h
/-- A row of strings, in memory of the call's own. -/
def StIs (B : Nat) (ps : List ByteArray) (e : Ending) (W : World) : Prop := ∃ p k, e = .returned (.slice p ps.length k) ∧ OwnC strC W B 9 1 (.slice p ps.length k) ps
theorem wpList_app_str9 {ops : Array Oper} {rest : List Oper} {o : Oper} {a : Act} {w : World} {Q : Exit → Act → World → Prop} (hgd : o.guard = none) (s x : Operand)
    (ho : o.op = Op.call { callee := Callee.builtin Builtin.append, args := #[s, x], argTypes := #[38, 38] })
    (B : Nat) (v : Value) (ps : List ByteArray) (hs : a.eval s = v) (hown : OwnT w B v ps) (g : Nat) (y : ByteArray) (hx : a.eval x = .slice (some ⟨g, 0, none⟩) 1 1)
    (hc : w.cell? ⟨g, 0, none⟩ = some (.string y)) (hmax : ps.length ≤ 2000000) (hB : B ≤ w.heap.size)
    (h : ∀ v' w', OwnT w' B v' (ps ++ [y]) → w.grownBy w' v.ownBlock → (∀ k, v.ownBlock = some k → B ≤ k ∧ k < w.heap.size) → wpList Try.prog ops Q rest (a.put o.dst v') w') : wpList Try.prog ops Q (o :: rest) a w :=
  wpList_plain hgd fun K hK => wp_app_str9 s x ho B v ps hs hown g y hx hc hmax hB (fun v' w' h1 h2 h3 => hK _ _ (h v' w' h1 h2 h3))
theorem ownT_shape {w : World} {B : Nat} {v : Value} {ps : List ByteArray} (h : OwnT w B v ps) : ∃ p k, v = .slice p ps.length k := by
  rcases h.2 with ⟨h0, h1⟩ | ⟨g, cap, cur, h1, _⟩
  · exact ⟨none, 0, by rw [h0, h1]⟩
  · exact ⟨_, _, h1⟩
theorem own_ltT {α : Type} {enc : α → List Value} {w : World} {B e size : Nat} {v : Value} {xs : List α} (h : OwnC enc w B e size v xs) : ∀ k, v.ownBlock = some k → B ≤ k ∧ k < w.heap.size := World.ownsRow.lt h
theorem row_ownT {W : World} {B : Nat} {p : Option Addr} {k n : Nat} {xs : List ByteArray} (h : OwnC strC W B 9 1 (.slice p n k) xs) : RowC strC 1 W p xs := by
  obtain ⟨p', k', e, hR⟩ := h.row strC_len
  injection e with e1 e2 e3
  rw [e1]
  exact hR
/-- The resources of the sessions that pass a test. -/
def selL (f : SeL → Bool) (xs : List SeL) : List ByteArray := (xs.filter f).map (fun x => x.r)
theorem sel_succ (f : SeL → Bool) {xs : List SeL} {k : Nat} (hk : k < xs.length) : selL f (xs.take (k + 1)) = if f xs[k] = true then selL f (xs.take k) ++ [xs[k].r] else selL f (xs.take k) := by
  rw [List.take_succ_eq_append_getElem hk]
  unfold selL
  rw [List.filter_append, List.map_append]
  cases h : f xs[k]
  · simp [List.filter_cons, h]
  · simp [List.filter_cons, h]
theorem sel_len (f : SeL → Bool) (xs : List SeL) : (selL f xs).length ≤ xs.length := by unfold selL; rw [List.length_map]; exact List.length_filter_le _ _
set_option maxRecDepth 100000 in
set_option maxHeartbeats 4000000 in
theorem resof_best (xs : List SeL) (p0 : Option Addr) (c : Nat) (w : World) (M : Int) (b0 : Nat) (hc : w.cell? ⟨b0, 0, none⟩ = some (.int .i64 M)) (hn : xs.length ≤ 1000000) (hw2 : ∀ x ∈ xs, x.r.size ≤ 1048576 ∧ x.s.size ≤ 1048576) (hR : RowC seC 4 w p0 xs) :
    Calls Try.prog 77 #[.slice p0 xs.length c, .func (.func 107) #[] #[.pointer (some ⟨b0, 0, none⟩)]] w fun e w' => StIs w.heap.size (selL (fun x => x.o && x.p == M) xs) e w' ∧ Below w.heap.size w w' := by
  obtain ⟨n, hxn⟩ : ∃ n, xs.length = n := ⟨_, rfl⟩
  have HP := Lib.hid (fun W (h : Below w.heap.size w W) => hR.on h)
  have HW := Lib.hid hw2
  have HN := Lib.hid hxn
  have HC := Lib.hid (fun W (h : Below w.heap.size w W) => (h.cell (p := ⟨b0, 0, none⟩) (block_lt_of_cell hc)).trans hc)
  clear hc
  rw [hxn] at hn ⊢
  clear hR hw2 hxn
  go_enter Try.func77, Try.ntmps77
  go_wp2
  go_loopw [5, 9] (fun vq iq wr => ∃ (k : Nat) (v : Value), k ≤ n ∧ iq = .int .i64 k ∧ vq = v ∧ OwnT wr w.heap.size v (selL (fun x => x.o && x.p == M) (xs.take k)) ∧ Below w.heap.size w wr) (fun _ i _ => n - (intOf i).toNat)
  case atStart => exact ⟨0, _, Nat.zero_le _, rfl, rfl, World.ownsRow_nil _ _ _ _, Below.refl _ _⟩
  case round =>
    obtain ⟨k, v, hk, rfl, hvv, hv, hb⟩ := hrel
    subst hvv
    have HV := Lib.hid hv
    have HB := Lib.hid hb
    clear hv
    by_cases hlt : k < n
    · have hlt1 : k < xs.length := by rw [HN.out]; exact hlt
      obtain ⟨g, rfl, hg, a0, a1, a2, a3⟩ := row_se4 (HP.out _ hb) hlt1
      have hxw := HW.out _ (List.getElem_mem hlt1)
      have hps := sel_succ (fun x => x.o && x.p == M) hlt1
      obtain ⟨x, hx⟩ : ∃ x, xs[k] = x := ⟨_, rfl⟩
      rw [hx] at a0 a1 a2 a3 hxw hps
      have i3 := fun W (hc : W.cell? ⟨b0, 0, none⟩ = some (.int .i64 M)) => clo_best x b0 M W hc
      unfold seV at i3
      have i4 := fun W b hb => joined_at9 x.r W (by omega) b hb
      (try dsimp only at hps)
      obtain ⟨b1, h1⟩ : ∃ b, (x.o && x.p == M) = b := ⟨_, rfl⟩
      rw [h1] at i3 hps
      have HPS := Lib.hid hps
      have HL : Hid ((selL (fun x => x.o && x.p == M) (xs.take k)).length ≤ 1000000) := Lib.hid (by have := sel_len (fun x => x.o && x.p == M) (xs.take k); rw [List.length_take] at this; omega)
      clear hb hx hps h1
      cases b1
      · rw [if_neg (by decide)] at HPS
        go_wp2_with (go_at_call 107; go_fit (i3 _ (HC.out _ HB.out)); rintro e w3 ⟨rfl, hb3⟩; have HB3 := Lib.hid (HB.out.trans (hb3.mono HB.out.size)); have HV3 := Lib.hid (own_on9 HV.out hb3); clear hb3)
        go_roundw
        case rel => exact ⟨k + 1, _, by omega, by go_num, rfl, by rw [HPS.out]; exact HV3.out, HB3.out⟩
        case measure => simp [intOf]; omega
      · rw [if_pos rfl] at HPS
        go_wp2_with (first
          | (go_at_call 107; go_fit (i3 _ (HC.out _ HB.out)); rintro e w3 ⟨rfl, hb3⟩; have c0 := (hb3.cell (p := ⟨g, k * 4, none⟩) hg).trans a0; have HB3 := Lib.hid (HB.out.trans (hb3.mono HB.out.size)); have HV3 := Lib.hid (own_on9 HV.out hb3); clear hb3)
          | (go_at_call 61; have _ := HV3; go_fit (i4 w3 w3.heap.size rfl); rintro e w4 ⟨rfl, hb4⟩; have HB4 := Lib.hid (HB3.out.trans (hb4.mono HB3.out.size)); have HV4 : Hid (OwnT (w4.alloc (.cells #[.string x.r] 9)) w.heap.size u5 (selL (fun x => x.o && x.p == M) (xs.take k))) := Lib.hid (World.ownsRow.alloc (own_on9 HV3.out hb4) _); clear hb4)
          | (at_builtin; have _ := HV4; refine wpList_app_str9 rfl _ _ rfl w.heap.size u5 (selL (fun x => x.o && x.p == M) (xs.take k)) rfl HV4.out w4.heap.size x.r rfl ((Arr.fresh w4 9 [.string x.r]).cell 0) (by have := HL.out; omega) (by have := HB4.out.size; rw [World.size_alloc]; omega) ?_; intro v5 w5 hv5 hg5 hin5; have HV5 := Lib.hid hv5; have HG5 := Lib.hid hg5; have HI5 := Lib.hid hin5; clear hv5 hg5 hin5))
        go_roundw
        case rel => exact ⟨k + 1, _, by omega, by go_num, rfl, by rw [HPS.out]; exact HV5.out, (HB4.out.alloc HB4.out.size _).grown HG5.out (HB4.out.alloc HB4.out.size _).size (fun q hq => (HI5.out q hq).1)⟩
        case measure => simp [intOf]; omega
    · have HT : Hid (selL (fun x => x.o && x.p == M) (xs.take k) = selL (fun x => x.o && x.p == M) xs) := Lib.hid (by rw [List.take_of_length_le (by rw [HN.out]; omega)])
      have HVE := HV.out
      rw [HT.out] at HVE
      have HS := ownT_shape HVE
      obtain ⟨q, kq, rfl⟩ := HS
      have HVE2 := Lib.hid (ownT_C HVE)
      clear hb HVE HV
      go_wp2
      go_ret
      exact ⟨⟨q, kq, rfl, HVE2.out⟩, HB.out⟩
set_option maxRecDepth 100000 in
set_option maxHeartbeats 4000000 in
theorem resof_on (xs : List SeL) (p0 : Option Addr) (c : Nat) (w : World)  (hn : xs.length ≤ 1000000) (hw2 : ∀ x ∈ xs, x.r.size ≤ 1048576 ∧ x.s.size ≤ 1048576) (hR : RowC seC 4 w p0 xs) :
    Calls Try.prog 77 #[.slice p0 xs.length c, .func (.func 72) #[] #[]] w fun e w' => StIs w.heap.size (selL (fun x => x.o) xs) e w' ∧ Below w.heap.size w w' := by
  obtain ⟨n, hxn⟩ : ∃ n, xs.length = n := ⟨_, rfl⟩
  have HP := Lib.hid (fun W (h : Below w.heap.size w W) => hR.on h)
  have HW := Lib.hid hw2
  have HN := Lib.hid hxn
  rw [hxn] at hn ⊢
  clear hR hw2 hxn
  go_enter Try.func77, Try.ntmps77
  go_wp2
  go_loopw [5, 9] (fun vq iq wr => ∃ (k : Nat) (v : Value), k ≤ n ∧ iq = .int .i64 k ∧ vq = v ∧ OwnT wr w.heap.size v (selL (fun x => x.o) (xs.take k)) ∧ Below w.heap.size w wr) (fun _ i _ => n - (intOf i).toNat)
  case atStart => exact ⟨0, _, Nat.zero_le _, rfl, rfl, World.ownsRow_nil _ _ _ _, Below.refl _ _⟩
  case round =>
    obtain ⟨k, v, hk, rfl, hvv, hv, hb⟩ := hrel
    subst hvv
    have HV := Lib.hid hv
    have HB := Lib.hid hb
    clear hv
    by_cases hlt : k < n
    · have hlt1 : k < xs.length := by rw [HN.out]; exact hlt
      obtain ⟨g, rfl, hg, a0, a1, a2, a3⟩ := row_se4 (HP.out _ hb) hlt1
      have hxw := HW.out _ (List.getElem_mem hlt1)
      have hps := sel_succ (fun x => x.o) hlt1
      obtain ⟨x, hx⟩ : ∃ x, xs[k] = x := ⟨_, rfl⟩
      rw [hx] at a0 a1 a2 a3 hxw hps
      have i3 := fun W => impl_ison x W
      unfold seV at i3
      have i4 := fun W b hb => joined_at9 x.r W (by omega) b hb
      (try dsimp only at hps)
      obtain ⟨b1, h1⟩ : ∃ b, (x.o) = b := ⟨_, rfl⟩
      rw [h1] at i3 hps a1
      have HPS := Lib.hid hps
      have HL : Hid ((selL (fun x => x.o) (xs.take k)).length ≤ 1000000) := Lib.hid (by have := sel_len (fun x => x.o) (xs.take k); rw [List.length_take] at this; omega)
      clear hb hx hps h1
      cases b1
      · rw [if_neg (by decide)] at HPS
        go_wp2_with (go_at_call 72; go_fit (i3 _); rintro e w3 ⟨rfl, hb3⟩; have HB3 := Lib.hid (HB.out.trans (hb3.mono HB.out.size)); have HV3 := Lib.hid (own_on9 HV.out hb3); clear hb3)
        go_roundw
        case rel => exact ⟨k + 1, _, by omega, by go_num, rfl, by rw [HPS.out]; exact HV3.out, HB3.out⟩
        case measure => simp [intOf]; omega
      · rw [if_pos rfl] at HPS
        go_wp2_with (first
          | (go_at_call 72; go_fit (i3 _); rintro e w3 ⟨rfl, hb3⟩; have c0 := (hb3.cell (p := ⟨g, k * 4, none⟩) hg).trans a0; have HB3 := Lib.hid (HB.out.trans (hb3.mono HB.out.size)); have HV3 := Lib.hid (own_on9 HV.out hb3); clear hb3)
          | (go_at_call 61; have _ := HV3; go_fit (i4 w3 w3.heap.size rfl); rintro e w4 ⟨rfl, hb4⟩; have HB4 := Lib.hid (HB3.out.trans (hb4.mono HB3.out.size)); have HV4 : Hid (OwnT (w4.alloc (.cells #[.string x.r] 9)) w.heap.size u5 (selL (fun x => x.o) (xs.take k))) := Lib.hid (World.ownsRow.alloc (own_on9 HV3.out hb4) _); clear hb4)
          | (at_builtin; have _ := HV4; refine wpList_app_str9 rfl _ _ rfl w.heap.size u5 (selL (fun x => x.o) (xs.take k)) rfl HV4.out w4.heap.size x.r rfl ((Arr.fresh w4 9 [.string x.r]).cell 0) (by have := HL.out; omega) (by have := HB4.out.size; rw [World.size_alloc]; omega) ?_; intro v5 w5 hv5 hg5 hin5; have HV5 := Lib.hid hv5; have HG5 := Lib.hid hg5; have HI5 := Lib.hid hin5; clear hv5 hg5 hin5))
        go_roundw
        case rel => exact ⟨k + 1, _, by omega, by go_num, rfl, by rw [HPS.out]; exact HV5.out, (HB4.out.alloc HB4.out.size _).grown HG5.out (HB4.out.alloc HB4.out.size _).size (fun q hq => (HI5.out q hq).1)⟩
        case measure => simp [intOf]; omega
    · have HT : Hid (selL (fun x => x.o) (xs.take k) = selL (fun x => x.o) xs) := Lib.hid (by rw [List.take_of_length_le (by rw [HN.out]; omega)])
      have HVE := HV.out
      rw [HT.out] at HVE
      have HS := ownT_shape HVE
      obtain ⟨q, kq, rfl⟩ := HS
      have HVE2 := Lib.hid (ownT_C HVE)
      clear hb HVE HV
      go_wp2
      go_ret
      exact ⟨⟨q, kq, rfl, HVE2.out⟩, HB.out⟩
end Go.Proofs.Ytkdljhmenejckaa

namespace Go.Proofs.Ytkdljhmenejckaa
set_option linter.unusedSimpArgs false
set_option linter.unusedVariables false
open Go.RowKit Go.Joins

set_option maxRecDepth 100000 in
set_option maxHeartbeats 4000000 in
theorem impl_best (xs : List SeL) (p0 : Option Addr) (c : Nat) (w : World) (hn : xs.length ≤ 1048576) (hw : ∀ x ∈ xs, x.r.size ≤ maxLen) (hw2 : ∀ x ∈ xs, x.r.size ≤ 1048576 ∧ x.s.size ≤ 1048576) (hR : RowC seC 4 w p0 xs) :
    Calls Try.prog 30 #[.slice p0 xs.length c] w fun e w' => StIs w.heap.size (bestR xs) e w' ∧ Below w.heap.size w w' := by
  have i1 := impl_seright xs p0 c w hn hw hR
  unfold bestR
  by_cases hk : okB xs = true
  rotate_left
  · rw [if_neg hk]
    rw [show okB xs = false by simpa using hk] at i1
    clear hk hw hw2 hR
    go_enter Try.func30, Try.ntmps30
    go_wp2_with (go_at_call 27; go_fit i1; rintro e w1 ⟨rfl, hb⟩)
    go_ret
    exact ⟨⟨none, 0, rfl, ownC_nil _ _ _ _ _⟩, hb⟩
  rw [if_pos hk]
  rw [hk] at i1
  have h5 := (okB_iff.1 hk).1
  have i2 := fun W h => impl_besttest xs p0 c W hn h
  obtain ⟨M, hM⟩ : ∃ M, mxA 0 xs = M := ⟨_, rfl⟩
  rw [hM] at i2 ⊢
  have i3 := fun W b0 hc hR => resof_best xs p0 c W M b0 hc (by omega) hw2 hR
  unfold StIs at i3
  have HP := Lib.hid (fun W (h : Below w.heap.size w W) => hR.on h)
  clear hM hk hR
  obtain ⟨n, hxn⟩ : ∃ n, xs.length = n := ⟨_, rfl⟩
  rw [hxn] at i1 i2 i3 hn h5 ⊢
  clear hw hw2 hxn
  go_enter Try.func30, Try.ntmps30
  go_wp2_with (first
    | (go_at_call 27; go_fit i1; rintro e w1 ⟨rfl, hb⟩; have HB1 := Lib.hid hb; clear hb)
    | (go_at_call 78; go_fit (i2 _ (HP.out _ HB1.out)); rintro e w2 ⟨rfl, hc2, hb⟩; have HB2 := Lib.hid (HB1.out.trans (hb.mono HB1.out.size)); have HC2 := Lib.hid hc2; clear hb hc2)
    | (go_at_call 77; go_fit (i3 _ _ HC2.out (HP.out _ HB2.out)); rintro e w3 ⟨⟨p3, k3, rfl, hv⟩, hb⟩; have HB3 := Lib.hid (HB2.out.trans (hb.mono HB2.out.size)); have HV3 := Lib.hid (hv.mono HB2.out.size); clear hb hv))
  go_ret
  exact ⟨⟨p3, k3, rfl, HV3.out⟩, HB3.out⟩
end Go.Proofs.Ytkdljhmenejckaa

namespace Go.Proofs.Ytkdljhmenejckaa
set_option linter.unusedSimpArgs false
set_option linter.unusedVariables false
open Go.RowKit Go.Joins

/-- What is known of the priority that is kept, behind k sessions. -/
def BInv (xs : List SeL) (k : Nat) (m : Int) : Prop := 0 ≤ m ∧ (∀ x ∈ xs.take k, x.o = true → x.p ≤ m) ∧ (m = 0 ∨ ∃ x ∈ xs.take k, x.p = m)
theorem mem_succ {xs : List SeL} {k : Nat} (hk : k < xs.length) {x : SeL} (h : x ∈ xs.take (k + 1)) : x ∈ xs.take k ∨ x = xs[k] := by
  rw [List.take_succ_eq_append_getElem hk] at h
  rcases List.mem_append.1 h with h | h
  · exact .inl h
  · exact .inr (List.mem_singleton.1 h)
theorem mem_keep {xs : List SeL} {k : Nat} (hk : k < xs.length) {x : SeL} (h : x ∈ xs.take k) : x ∈ xs.take (k + 1) := by
  rw [List.take_succ_eq_append_getElem hk]
  exact List.mem_append_left _ h
theorem mem_last {xs : List SeL} {k : Nat} (hk : k < xs.length) : xs[k] ∈ xs.take (k + 1) := by
  rw [List.take_succ_eq_append_getElem hk]
  exact List.mem_append_right _ (List.mem_singleton.2 rfl)
theorem binv_skip {xs : List SeL} {k : Nat} {m : Int} (hk : k < xs.length) (h : BInv xs k m) (hx : xs[k].o = true → xs[k].p < m) : BInv xs (k + 1) m ∧ bestL m (xs.take (k + 1)) = bestL m (xs.take k) := by
  obtain ⟨h0, h1, h2⟩ := h
  refine ⟨⟨h0, fun x hm ho => ?_, ?_⟩, ?_⟩
  · rcases mem_succ hk hm with h | rfl
    · exact h1 x h ho
    · have := hx ho; omega
  · rcases h2 with h | ⟨x, hm, h⟩
    · exact .inl h
    · exact .inr ⟨x, mem_keep hk hm, h⟩
  · rw [best_succ m hk, if_neg]
    intro hc
    simp only [Bool.and_eq_true, beq_iff_eq] at hc
    have := hx hc.1
    omega
theorem binv_take {xs : List SeL} {k : Nat} {m : Int} (hk : k < xs.length) (h : BInv xs k m) (ho : xs[k].o = true) (hp : m ≤ xs[k].p) : BInv xs (k + 1) xs[k].p ∧ bestL xs[k].p (xs.take (k + 1)) = (if m < xs[k].p then [] else bestL m (xs.take k)) ++ [xs[k].r] := by
  obtain ⟨h0, h1, h2⟩ := h
  refine ⟨⟨by omega, fun x hm hx => ?_, .inr ⟨_, mem_last hk, rfl⟩⟩, ?_⟩
  · rcases mem_succ hk hm with h | rfl
    · have := h1 x h hx; omega
    · exact Int.le_refl _
  · rw [best_succ _ hk, if_pos (by rw [ho]; simp)]
    split
    · rename_i hlt
      rw [best_none (fun x hm hx => by have := h1 x hm hx; omega)]
    · rename_i hlt
      have he : xs[k].p = m := by omega
      rw [he]
theorem binv_end {xs : List SeL} {m : Int} (hok : okB xs = true) (h : BInv xs xs.length m) : m = mxA 0 xs := by
  obtain ⟨h0, h1, h2⟩ := h
  rw [List.take_length] at h1 h2
  exact mx_same (off_zero hok) h0 h1 h2
theorem empty_str9 (w : World) (B : Nat) (hB : B ≤ w.heap.size) : OwnT (w.alloc (.cells #[] 9)) B (.slice (some ⟨w.heap.size, 0, none⟩) 0 0) [] :=
  ownsRow_le (World.ownsRow_lit w #[] 0 (Nat.le_refl _) (Nat.zero_le _) rfl) hB
set_option maxRecDepth 100000 in
set_option maxHeartbeats 4000000 in
theorem spec_l09best (xs : List SeL) (p0 : Option Addr) (c : Nat) (w : World) (hok : okB xs = true) (hR : RowC seC 4 w p0 xs) :
    Calls Try.prog 79 #[.slice p0 xs.length c] w fun e w' => StIs w.heap.size (bestR xs) e w' ∧ Below w.heap.size w w' := by
  unfold bestR
  rw [if_pos hok]
  have hn := (okB_iff.1 hok).1
  have HE := Lib.hid (fun m (h : BInv xs xs.length m) => binv_end hok h)
  obtain ⟨n, hxn⟩ : ∃ n, xs.length = n := ⟨_, rfl⟩
  have HP := Lib.hid (fun W (h : Below w.heap.size w W) => hR.on h)
  have HN := Lib.hid hxn
  rw [hxn] at hn HE ⊢
  clear hR hxn hok
  go_enter Try.func79, Try.ntmps79
  go_wp2
  go_loopw [3, 4, 5] (fun mq vq iq wr => ∃ (k : Nat) (m : Int) (v : Value), k ≤ n ∧ iq = .int .i64 k ∧ mq = .int .i64 m ∧ vq = v ∧ BInv xs k m ∧ OwnT wr w.heap.size v (bestL m (xs.take k)) ∧ Below w.heap.size w wr) (fun _ _ i _ => n - (intOf i).toNat)
  case atStart => exact ⟨0, 0, _, Nat.zero_le _, rfl, rfl, rfl, ⟨Int.le_refl _, fun x hx => by simp at hx, .inl rfl⟩, empty_str9 w _ (Nat.le_refl _), (Below.refl _ _).alloc (Nat.le_refl _) _⟩
  case round =>
    obtain ⟨k, m, v, hk, rfl, rfl, hvv, hI, hv, hb⟩ := hrel
    subst hvv
    have HV := Lib.hid hv
    have HB := Lib.hid hb
    have HI := Lib.hid hI
    clear hv hI
    by_cases hlt : k < n
    · have hlt1 : k < xs.length := by rw [HN.out]; exact hlt
      obtain ⟨g, rfl, hg, a0, a1, a2, a3⟩ := row_se4 (HP.out _ hb) hlt1
      have hsk := binv_skip hlt1 HI.out
      have htk := binv_take hlt1 HI.out
      obtain ⟨x, hx⟩ : ∃ x, xs[k] = x := ⟨_, rfl⟩
      rw [hx] at a0 a1 a2 a3 hsk htk
      have HL : Hid ((bestL m (xs.take k)).length ≤ 1000000) := Lib.hid (by have := best_len m (xs.take k); rw [List.length_take] at this; omega)
      clear hb hx
      obtain ⟨bo, hbo⟩ : ∃ b, x.o = b := ⟨_, rfl⟩
      rw [hbo] at a1 hsk htk
      obtain ⟨pr, hpr⟩ : ∃ b, x.p = b := ⟨_, rfl⟩
      rw [hpr] at a2 hsk htk
      clear hbo hpr
      cases bo
      · have HS := Lib.hid (hsk (by simp))
        clear hsk htk
        go_wp2
        go_roundw
        case rel => exact ⟨k + 1, m, _, by omega, by go_num, rfl, rfl, HS.out.1, by rw [HS.out.2]; exact HV.out, HB.out⟩
        case measure => simp [intOf]; omega
      · by_cases hq : pr < m
        · have HS := Lib.hid (hsk (fun _ => hq))
          clear hsk htk
          go_wp2
          go_roundw
          case rel => exact ⟨k + 1, m, _, by omega, by go_num, rfl, rfl, HS.out.1, by rw [HS.out.2]; exact HV.out, HB.out⟩
          case measure => simp [intOf]; omega
        · have HS := Lib.hid (htk rfl (by omega))
          clear hsk htk
          by_cases hq2 : m < pr
          · rw [if_pos hq2] at HS
            have HBa := Lib.hid (HB.out.alloc HB.out.size (.cells #[] 9))
            have HVa := Lib.hid (empty_str9 wr w.heap.size HB.out.size)
            have b0 := (((Below.refl wr.heap.size wr).alloc (Nat.le_refl _) (.cells #[] 9)).cell (p := ⟨g, k * 4, none⟩) hg).trans a0
            have b2 := (((Below.refl wr.heap.size wr).alloc (Nat.le_refl _) (.cells #[] 9)).cell (p := ⟨g, k * 4 + 2, none⟩) hg).trans a2
            go_wp2_with (first
              | (at_builtin; refine wpList_app_str9 rfl _ _ rfl w.heap.size _ [] rfl (World.ownsRow.alloc HVa.out _) (wr.heap.size + 1) x.r rfl (by have := (Arr.fresh (wr.alloc (.cells #[] 9)) 9 [.string x.r]).cell 0; rw [World.size_alloc] at this; exact this) (by simp) (by rw [World.size_alloc]; have := HBa.out.size; omega) ?_; intro v5 w5 hv5 hg5 hin5; have HV5 := Lib.hid hv5; have HB5 := Lib.hid ((HBa.out.alloc HBa.out.size _).grown hg5 (HBa.out.alloc HBa.out.size _).size (fun q hq => (hin5 q hq).1)); clear hv5 hg5 hin5))
            go_roundw
            case rel => exact ⟨k + 1, pr, _, by omega, by go_num, rfl, rfl, HS.out.1, by rw [HS.out.2]; exact HV5.out, HB5.out⟩
            case measure => simp [intOf]; omega
          · rw [if_neg hq2] at HS
            go_wp2_with (first
              | (at_builtin; refine wpList_app_str9 rfl _ _ rfl w.heap.size _ (bestL m (xs.take k)) rfl (HV.out.alloc _) wr.heap.size x.r rfl ((Arr.fresh wr 9 [.string x.r]).cell 0) (by have := HL.out; first | omega | simp) (by rw [World.size_alloc]; have := HB.out.size; omega) ?_; intro v5 w5 hv5 hg5 hin5; have HV5 := Lib.hid hv5; have HB5 := Lib.hid ((HB.out.alloc HB.out.size _).grown hg5 (HB.out.alloc HB.out.size _).size (fun q hq => (hin5 q hq).1)); clear hv5 hg5 hin5))
            go_roundw
            case rel => exact ⟨k + 1, pr, _, by omega, by go_num, rfl, rfl, HS.out.1, by rw [HS.out.2]; exact HV5.out, HB5.out⟩
            case measure => simp [intOf]; omega
    · obtain rfl : k = n := by omega
      have hm := HE.out m HI.out
      subst hm
      have HT : Hid (bestL (mxA 0 xs) (xs.take k) = bestL (mxA 0 xs) xs) := Lib.hid (by rw [List.take_of_length_le (by rw [HN.out]; omega)])
      have HVE := HV.out
      rw [HT.out] at HVE
      obtain ⟨q, kq, rfl⟩ := ownT_shape HVE
      have HVE2 := Lib.hid (ownT_C HVE)
      clear hb HVE HV
      go_wp2
      go_ret
      exact ⟨⟨q, kq, rfl, HVE2.out⟩, HB.out⟩
set_option maxRecDepth 100000 in
set_option maxHeartbeats 4000000 in
theorem spec_best (xs : List SeL) (p0 : Option Addr) (c : Nat) (w : World) (hn : xs.length ≤ 1048576) (hw : ∀ x ∈ xs, x.r.size ≤ maxLen) (hR : RowC seC 4 w p0 xs) :
    Calls Try.prog 32 #[.slice p0 xs.length c] w fun e w' => StIs w.heap.size (bestR xs) e w' ∧ Below w.heap.size w w' := by
  have i1 := spec_seright xs p0 c w hn hw hR
  by_cases hk : okB xs = true
  rotate_left
  · unfold bestR
    rw [if_neg hk]
    rw [show okB xs = false by simpa using hk] at i1
    clear hk hw hR
    go_enter Try.func32, Try.ntmps32
    go_wp2_with (go_at_call 28; go_fit i1; rintro e w1 ⟨rfl, hb⟩)
    go_ret
    exact ⟨⟨_, _, rfl, ownT_C (empty_str9 w1 w.heap.size hb.size)⟩, hb.alloc hb.size _⟩
  rw [hk] at i1
  have i2 := fun W (h : Below w.heap.size w W) => spec_l09best xs p0 c W hk (hR.on h)
  clear hk hw hR
  go_enter Try.func32, Try.ntmps32
  go_wp2_with (first
    | (go_at_call 28; go_fit i1; rintro e w1 ⟨rfl, hb⟩; have HB := Lib.hid hb; clear hb)
    | (go_at_call 79; go_fit (i2 _ HB.out); rintro e w2 ⟨⟨q, kq, rfl, hv⟩, hb2⟩; have HV := Lib.hid (OwnC.mono hv HB.out.size); have HB2 := Lib.hid (HB.out.trans (hb2.mono HB.out.size)); clear hv hb2))
  go_ret
  exact ⟨⟨q, kq, rfl, HV.out⟩, HB2.out⟩
end Go.Proofs.Ytkdljhmenejckaa

namespace Go.Proofs.Ytkdljhmenejckaa
set_option linter.unusedSimpArgs false
set_option linter.unusedVariables false
open Go.RowKit Go.Joins

/-- The greatest priority of those that are on, or m. -/
def moA (m : Int) : List SeL → Int
  | [] => m
  | x :: l => moA (if (x.o && decide (m < x.p)) = true then x.p else m) l
theorem mo_ge : ∀ (l : List SeL) (m : Int), m ≤ moA m l
  | [], m => Int.le_refl _
  | x :: l, m => by
    have := mo_ge l (if (x.o && decide (m < x.p)) = true then x.p else m)
    show m ≤ moA (if (x.o && decide (m < x.p)) = true then x.p else m) l
    split at this <;> rename_i h
    · rw [if_pos h]
      simp only [Bool.and_eq_true, decide_eq_true_eq] at h
      omega
    · rw [if_neg h]; exact this
theorem mo_all : ∀ (l : List SeL) (m : Int), ∀ x ∈ l, x.o = true → x.p ≤ moA m l
  | x :: l, m, y, hy, ho => by
    show y.p ≤ moA (if (x.o && decide (m < x.p)) = true then x.p else m) l
    rcases List.mem_cons.1 hy with rfl | hy
    · have := mo_ge l (if (y.o && decide (m < y.p)) = true then y.p else m)
      by_cases h : m < y.p
      · rw [if_pos (by rw [ho, decide_eq_true h]; rfl)] at this ⊢; exact this
      · rw [if_neg (by rw [decide_eq_false h]; simp)] at this ⊢; omega
    · exact mo_all l _ y hy ho
theorem mo_is : ∀ (l : List SeL) (m : Int), moA m l = m ∨ ∃ x ∈ l, x.o = true ∧ x.p = moA m l
  | [], m => .inl rfl
  | x :: l, m => by
    show moA (if (x.o && decide (m < x.p)) = true then x.p else m) l = m ∨ ∃ y ∈ x :: l, y.o = true ∧ y.p = moA (if (x.o && decide (m < x.p)) = true then x.p else m) l
    rcases mo_is l (if (x.o && decide (m < x.p)) = true then x.p else m) with h | ⟨y, hy, h0, h⟩
    · by_cases hm : (x.o && decide (m < x.p)) = true
      · rw [if_pos hm] at h ⊢
        simp only [Bool.and_eq_true] at hm
        exact .inr ⟨x, List.mem_cons_self .., hm.1, h.symm⟩
      · rw [if_neg hm] at h ⊢
        exact .inl h
    · exact .inr ⟨y, List.mem_cons_of_mem _ hy, h0, h⟩
theorem best_most {xs : List SeL} (hok : okB xs = true) {x : SeL} (hx : x ∈ xs) : (x.o && x.p == mxA 0 xs) = (x.o && x.p == moA (-1) xs && decide (0 ≤ moA (-1) xs)) := by
  by_cases h0 : 0 ≤ moA (-1) xs
  · have e := mx_same (off_zero hok) h0 (fun y hy ho => mo_all xs (-1) y hy ho) (by
      rcases mo_is xs (-1) with h | ⟨y, hy, _, h⟩
      · omega
      · exact .inr ⟨y, hy, h⟩)
    rw [decide_eq_true h0, Bool.and_true, ← e]
  · rw [decide_eq_false h0, Bool.and_false]
    cases ho : x.o
    · rfl
    · have h1 := mo_all xs (-1) x hx ho
      have h2 := mx_ge xs 0
      rw [Bool.true_and]
      exact beq_eq_false_iff_ne.2 (by omega)
theorem inc_only {xs : List SeL} (h : IncR xs xs.length) {i j : Nat} (hi : i < xs.length) (hj : j < xs.length) (he : xs[i].r.toList = xs[j].r.toList) : i = j := by
  rcases Nat.lt_trichotomy i j with hl | rfl | hl
  · have := inc_all h j i hj hl
    rw [he, sl_self] at this
    cases this
  · rfl
  · have := inc_all h i j hi hl
    rw [he, sl_self] at this
    cases this
/-- Which resources are among those of the sessions that pass a test. -/
theorem sel_has {xs : List SeL} (hok : okB xs = true) (f : SeL → Bool) {i : Nat} (hi : i < xs.length) : hasB (selL f xs) xs[i].r = f xs[i] := by
  have hI := (okB_iff.1 hok).2.1
  unfold hasB selL
  cases hf : f xs[i]
  · rw [List.any_eq_false]
    intro t ht hte
    obtain ⟨x, hx, rfl⟩ := List.mem_map.1 ht
    obtain ⟨hx1, hx2⟩ := List.mem_filter.1 hx
    obtain ⟨j, hj, rfl⟩ := List.mem_iff_getElem.1 hx1
    have e := inc_only hI hj hi (by simpa using hte)
    subst e
    rw [hf] at hx2
    cases hx2
  · rw [List.any_eq_true]
    exact ⟨xs[i].r, List.mem_map.2 ⟨xs[i], List.mem_filter.2 ⟨List.getElem_mem hi, hf⟩, rfl⟩, by simp⟩
theorem mo_step {xs : List SeL} {k : Nat} (hk : k < xs.length) (m : Int) : moA m (xs.drop k) = moA (if (xs[k].o && decide (m < xs[k].p)) = true then xs[k].p else m) (xs.drop (k + 1)) := by
  rw [List.drop_eq_getElem_cons hk]
  rfl
set_option maxRecDepth 100000 in
set_option maxHeartbeats 4000000 in
theorem fnbest (a0 : Option Addr) (len0 cap0 : Nat) (w : World) (h0 : len0 ≤ 1048576) (r0 : SrcRow w w.heap.size a0 len0) :
    Calls Try.prog 4 #[.slice a0 len0 cap0] w fun e w' => e = .returned (.bool true) ∧ Below w.heap.size w w' := by
  have R0 := Lib.hid r0
  clear r0
  go_enter Try.func4, Try.ntmps4
  go_wp2_with fail
  refine (draw_best a0 len0 cap0 _ h0 R0.out).mono ?_
  rintro e w1 ⟨⟨xs, p, c, rfl, ho, hl, hw⟩, hb1⟩
  have HB1 := Lib.hid hb1
  have HR1 := Lib.hid (fun W (h : Below w1.heap.size w1 W) => (row_own9 ho).on h)
  have hw1 : ∀ x ∈ xs, x.r.size ≤ 1048576 ∧ x.s.size ≤ 1048576 := fun x hx => by have := hw x hx; omega
  have i1 := fun W hR => impl_best xs p c W (by omega) (se_max hw1) hw1 hR
  have i2 := fun W hR => spec_best xs p c W (by omega) (se_max hw1) hR
  have i3 := fun W hR => spec_seright xs p c W (by omega) (se_max hw1) hR
  unfold StIs at i1 i2
  clear hb1 ho hw hw1 h0
  cases hok : okB xs
  · have hbe : bestR xs = [] := by unfold bestR; rw [hok]; rfl
    rw [hbe] at i1 i2
    rw [hok] at i3
    have i4 := fun p q c d W hp hq => lw_texts [] p q c d W (by simp) hp hq
    simp only [List.length_nil] at i1 i2 i4
    obtain ⟨n, hxn⟩ : ∃ n, xs.length = n := ⟨_, rfl⟩
    rw [hxn] at i1 i2 i3 hl ⊢
    clear hok hbe hxn
    go_wp2_with (first
      | (go_at_call 28; have _ := HB7; go_fit (i3 _ (HR1.out _ HC7.out)); rintro e w8 ⟨rfl, hb⟩; have HB8 := Lib.hid (HB7.out.trans (hb.mono HB7.out.size)); clear hb)
      | (go_at_call 31; have _ := HB6; go_fit (i4 p2 p6 k2 k6 _ (row_ownT HV6a.out) (row_ownT HV6.out)); rintro e w7 ⟨rfl, hb⟩; have HB7 := Lib.hid (HB6.out.trans (hb.mono HB6.out.size)); have HC7 := Lib.hid (HC6.out.trans (hb.mono HC6.out.size)); clear hb)
      | (go_at_call 32; have _ := HB5; go_fit (i2 _ (HR1.out _ HC5.out)); rintro e w6 ⟨⟨p6, k6, rfl, hv⟩, hb⟩; have HB6 := Lib.hid (HB5.out.trans (hb.mono HB5.out.size)); have HC6 := Lib.hid (HC5.out.trans (hb.mono HC5.out.size)); have HV6 := Lib.hid hv; have HV6a := Lib.hid (HV5.out.on hb); clear hb hv)
      | (go_at_call 28; have _ := HB4; go_fit (i3 _ (HR1.out _ HC4.out)); rintro e w5 ⟨rfl, hb⟩; have HB5 := Lib.hid (HB4.out.trans (hb.mono HB4.out.size)); have HC5 := Lib.hid (HC4.out.trans (hb.mono HC4.out.size)); have HV5 := Lib.hid (HV4.out.on hb); clear hb)
      | (go_at_call 31; have _ := HB3; go_fit (i4 p2 p3 k2 k3 _ (row_ownT HV3a.out) (row_ownT HV3.out)); rintro e w4 ⟨rfl, hb⟩; have HB4 := Lib.hid (HB3.out.trans (hb.mono HB3.out.size)); have HC4 := Lib.hid (HC3.out.trans (hb.mono HC3.out.size)); have HV4 := Lib.hid (HV3a.out.on hb); clear hb)
      | (go_at_call 32; have _ := HB2; go_fit (i2 _ (HR1.out _ HC2.out)); rintro e w3 ⟨⟨p3, k3, rfl, hv⟩, hb⟩; have HB3 := Lib.hid (HB2.out.trans (hb.mono HB2.out.size)); have HC3 := Lib.hid (HC2.out.trans (hb.mono HC2.out.size)); have HV3 := Lib.hid hv; have HV3a := Lib.hid (HV2.out.on hb); clear hb hv)
      | (go_at_call 30; go_fit (i1 _ (HR1.out _ (Below.refl _ _))); rintro e w2 ⟨⟨p2, k2, rfl, hv⟩, hb⟩; have HB2 := Lib.hid (HB1.out.trans (hb.mono HB1.out.size)); have HC2 := Lib.hid hb; have HV2 := Lib.hid hv; clear hb hv))
    go_ret
    exact ⟨rfl, HB8.out⟩
  · have hbe : bestR xs = selL (fun x => x.o && x.p == mxA 0 xs) xs := by unfold bestR; rw [hok]; rfl
    have hpsl := sel_len (fun x => x.o && x.p == mxA 0 xs) xs
    have HPS : Hid (∀ i (hi : i < xs.length), hasB (selL (fun x => x.o && x.p == mxA 0 xs) xs) xs[i].r = (xs[i].o && xs[i].p == moA (-1) xs && decide (0 ≤ moA (-1) xs))) := Lib.hid (fun i hi => (sel_has hok _ hi).trans (best_most hok (List.getElem_mem hi)))
    rw [hbe] at i1 i2
    rw [hok] at i3
    obtain ⟨ps, hps⟩ : ∃ ps, selL (fun x => x.o && x.p == mxA 0 xs) xs = ps := ⟨_, rfl⟩
    rw [hps] at i1 i2 hpsl HPS
    have i4 := fun p q c d W hp hq => lw_texts ps p q c d W (by omega) hp hq
    have i5 := fun t p c W hp => lw_hasW ps t p c W (by omega) hp
    obtain ⟨mo, hmo⟩ : ∃ m, moA (-1) xs = m := ⟨_, rfl⟩
    rw [hmo] at HPS
    have HMO : Hid (moA (-1) (xs.drop 0) = mo) := Lib.hid hmo
    obtain ⟨n, hxn⟩ : ∃ n, xs.length = n := ⟨_, rfl⟩
    have HN := Lib.hid hxn
    rw [hxn] at i1 i2 i3 hl ⊢
    obtain ⟨nq, hnq⟩ : ∃ n, ps.length = n := ⟨_, rfl⟩
    rw [hnq] at i1 i2 i4 i5
    clear hok hbe hxn hpsl hps hmo hnq
    go_wp2_with (first
      | (go_at_call 28; have _ := HB4; go_fit (i3 _ (HR1.out _ HC4.out)); rintro e w5 ⟨rfl, hb⟩; have HB5 := Lib.hid (HB4.out.trans (hb.mono HB4.out.size)); have HC5 := Lib.hid (HC4.out.trans (hb.mono HC4.out.size)); have HV5 := Lib.hid (HV4.out.on hb); clear hb)
      | (go_at_call 31; have _ := HB3; go_fit (i4 p2 p3 k2 k3 _ (row_ownT HV3a.out) (row_ownT HV3.out)); rintro e w4 ⟨rfl, hb⟩; have HB4 := Lib.hid (HB3.out.trans (hb.mono HB3.out.size)); have HC4 := Lib.hid (HC3.out.trans (hb.mono HC3.out.size)); have HV4 := Lib.hid (HV3a.out.on hb); clear hb)
      | (go_at_call 32; have _ := HB2; go_fit (i2 _ (HR1.out _ HC2.out)); rintro e w3 ⟨⟨p3, k3, rfl, hv⟩, hb⟩; have HB3 := Lib.hid (HB2.out.trans (hb.mono HB2.out.size)); have HC3 := Lib.hid (HC2.out.trans (hb.mono HC2.out.size)); have HV3 := Lib.hid hv; have HV3a := Lib.hid (HV2.out.on hb); clear hb hv)
      | (go_at_call 30; go_fit (i1 _ (HR1.out _ (Below.refl _ _))); rintro e w2 ⟨⟨p2, k2, rfl, hv⟩, hb⟩; have HB2 := Lib.hid (HB1.out.trans (hb.mono HB1.out.size)); have HC2 := Lib.hid hb; have HV2 := Lib.hid hv; clear hb hv))
    go_loopw [5, 6] (fun mq iq wr => ∃ (k : Nat) (m : Int), k ≤ n ∧ iq = .int .i64 k ∧ mq = .int .i64 m ∧ moA m (xs.drop k) = mo ∧ w5 = wr) (fun _ i _ => n - (intOf i).toNat)
    case atStart => exact ⟨0, -1, Nat.zero_le _, rfl, rfl, HMO.out, rfl⟩
    case round =>
      obtain ⟨k, m, hk, rfl, rfl, hm, rfl⟩ := hrel
      have HMk := Lib.hid hm
      clear hm
      by_cases hlt : k < n
      · have hlt1 : k < xs.length := by rw [HN.out]; exact hlt
        obtain ⟨g, rfl, hg, a0, a1, a2, a3⟩ := row_se4 (HR1.out _ HC5.out) hlt1
        have hst := mo_step hlt1 m
        obtain ⟨x, hx⟩ : ∃ x, xs[k] = x := ⟨_, rfl⟩
        rw [hx] at a0 a1 a2 a3 hst
        rw [HMk.out] at hst
        obtain ⟨bo, hbo⟩ : ∃ b, x.o = b := ⟨_, rfl⟩
        rw [hbo] at a1 hst
        clear hx hbo
        cases bo
        · have HST := Lib.hid hst.symm
          clear hst
          go_wp2
          go_roundw
          case rel => exact ⟨k + 1, m, by omega, by go_num, rfl, HST.out, by first | rfl | trivial⟩
          case measure => simp [intOf]; omega
        · by_cases hp : m < x.p
          · rw [if_pos (by rw [decide_eq_true hp]; rfl)] at hst
            have HST := Lib.hid hst.symm
            clear hst
            go_wp2
            go_roundw
            case rel => exact ⟨k + 1, x.p, by omega, by go_num, rfl, HST.out, by first | rfl | trivial⟩
            case measure => simp [intOf]; omega
          · rw [if_neg (by rw [decide_eq_false hp]; decide)] at hst
            have HST := Lib.hid hst.symm
            clear hst
            go_wp2
            go_roundw
            case rel => exact ⟨k + 1, m, by omega, by go_num, rfl, HST.out, by first | rfl | trivial⟩
            case measure => simp [intOf]; omega
      · have hmm : m = mo := by
          have h := HMk.out
          rw [List.drop_of_length_le (by rw [HN.out]; omega)] at h
          exact h
        subst hmm
        clear HMk
        go_wp2
        go_loopw [7] (fun iq wr => ∃ k : Nat, k ≤ n ∧ iq = .int .i64 k ∧ Below w5.heap.size w5 wr) (fun i _ => n - (intOf i).toNat)
        case atStart => exact ⟨0, Nat.zero_le _, rfl, Below.refl _ _⟩
        case round =>
          obtain ⟨q, hq, rfl, hb⟩ := hrel
          have HB := Lib.hid hb
          by_cases hlt2 : q < n
          · have hlt1 : q < xs.length := by rw [HN.out]; exact hlt2
            obtain ⟨g, rfl, hg, a0, a1, a2, a3⟩ := row_se4 (HR1.out _ (HC5.out.trans (hb.mono HC5.out.size))) hlt1
            have hH := HPS.out q hlt1
            obtain ⟨x, hx⟩ : ∃ x, xs[q] = x := ⟨_, rfl⟩
            rw [hx] at a0 a1 a2 a3 hH
            obtain ⟨bo, hbo⟩ : ∃ b, x.o = b := ⟨_, rfl⟩
            obtain ⟨b2, hb2⟩ : ∃ b, (x.p == m) = b := ⟨_, rfl⟩
            obtain ⟨b3, hb3⟩ : ∃ b, decide (0 ≤ m) = b := ⟨_, rfl⟩
            rw [hbo] at a1
            rw [hbo, hb2, hb3] at hH
            have i6 := fun W hp => i5 x.r p2 k2 W hp
            obtain ⟨H, hHH⟩ : ∃ H, hasB ps x.r = H := ⟨_, rfl⟩
            rw [hHH] at i6 hH
            unfold SaysB at i6
            have hbd := fun N => below_drewN HB.out N
            have hrow := fun N => row_ownT (HV5.out.on (below_drewN HB.out N))
            clear hx hbo hHH hb
            cases bo
            · obtain rfl : H = false := hH
              go_wp2
              go_quiet (first | (go_at_call 33; exact Calls.quiet_of_same ((i6 _ (hrow _)).mono fun e w' h => ⟨h.1, h.2.symm⟩)))
              go_wp2
              go_roundw
              case rel => exact ⟨q + 1, by omega, by go_num, hbd _⟩
              case measure => simp [intOf]; omega
            · cases b2
              · obtain rfl : H = false := hH
                go_wp2
                go_quiet (first | (go_at_call 33; exact Calls.quiet_of_same ((i6 _ (hrow _)).mono fun e w' h => ⟨h.1, h.2.symm⟩)))
                go_wp2
                go_roundw
                case rel => exact ⟨q + 1, by omega, by go_num, hbd _⟩
                case measure => simp [intOf]; omega
              · cases b3
                · have hd3 : ¬ 0 ≤ m := by simpa using hb3
                  obtain rfl : H = false := hH
                  go_wp2
                  go_quiet (first | (go_at_call 33; exact Calls.quiet_of_same ((i6 _ (hrow _)).mono fun e w' h => ⟨h.1, h.2.symm⟩)))
                  go_wp2
                  go_roundw
                  case rel => exact ⟨q + 1, by omega, by go_num, hbd _⟩
                  case measure => simp [intOf]; omega
                · have hd3 : 0 ≤ m := by simpa using hb3
                  obtain rfl : H = true := hH
                  go_wp2
                  go_quiet (first | (go_at_call 33; exact Calls.quiet_of_same ((i6 _ (hrow _)).mono fun e w' h => ⟨h.1, h.2.symm⟩)))
                  go_wp2
                  go_roundw
                  case rel => exact ⟨q + 1, by omega, by go_num, hbd _⟩
                  case measure => simp [intOf]; omega
          · clear hb
            go_wp2
            go_ret
            exact ⟨rfl, HB5.out.trans (HB.out.mono HB5.out.size)⟩
end Go.Proofs.Ytkdljhmenejckaa
