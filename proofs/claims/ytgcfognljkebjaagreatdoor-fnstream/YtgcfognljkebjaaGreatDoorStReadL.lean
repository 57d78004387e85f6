/- How spec.l04Parts takes a mark apart, on lists; it gives back the parts of a valid stanza's mark. -/
import Derived.Test.YtgcfognljkebjaaGreatDoorStReadMath
namespace Go.Proofs.YtgcfognljkebjaaGreatDoor
set_option linter.unusedSimpArgs false
set_option linter.unusedVariables false
open Go.Joins

structure StL where
  k : List UInt8
  t : List UInt8
  f : List UInt8
  o : List UInt8
  n : Int
  b : List UInt8
def zeroL : StL := ⟨[], [], [], [], 0, []⟩
def foldN (T : List UInt8) : Int := T.foldl (fun n c => 10 * n + ((c.toNat : Int) - 48)) 0
def numL (T : List UInt8) : Int := if T.length ≤ 10 ∧ T.all (fun c => digC c.toNat) = true then foldN T else 0
theorem foldN_app (T : List UInt8) (c : UInt8) : foldN (T ++ [c]) = 10 * foldN T + ((c.toNat : Int) - 48) := by unfold foldN; rw [List.foldl_append]; rfl
theorem digit_nat {n : Nat} (h : n < 10) : (UInt8.ofNat (48 + n)).toNat = 48 + n := by rw [UInt8.toNat_ofNat']; omega
theorem dec_fold (m : Nat) : foldN (Lib.decDigits m) = m ∧ (Lib.decDigits m).all (fun c => digC c.toNat) = true := by
  induction m using Nat.strongRecOn with
  | _ m ih =>
    rw [Lib.decDigits]
    split
    · rename_i h
      have e := digit_nat h
      refine ⟨?_, ?_⟩
      · simp only [foldN, List.foldl_cons, List.foldl_nil]
        rw [e]
        omega
      · simp only [List.all_cons, List.all_nil, Bool.and_true]
        rw [e]
        unfold digC
        simp
        omega
    · obtain ⟨h1, h2⟩ := ih (m / 10) (by omega)
      have e := digit_nat (Nat.mod_lt m (show 0 < 10 by decide))
      refine ⟨?_, ?_⟩
      · rw [foldN_app, h1, e]
        omega
      · rw [List.all_append, h2]
        simp only [List.all_cons, List.all_nil, Bool.and_true, Bool.true_and]
        rw [e]
        unfold digC
        simp
        omega
theorem num_id {n : Int} (h0 : 0 ≤ n) (h1 : n ≤ 1000000000) : numL (idL n) = n := by
  have hl := id_len h0 h1
  by_cases hz : n = 0
  · subst hz; rfl
  · have e : idL n = Lib.decDigits n.toNat := by unfold idL Lib.itoa; rw [if_neg hz, if_neg (by omega)]
    rw [e] at hl ⊢
    obtain ⟨h2, h3⟩ := dec_fold n.toNat
    unfold numL
    rw [if_pos ⟨hl, h3⟩, h2]
    omega
def withF (s : StL) (w v : List UInt8) : StL :=
  if w = wType then { s with t := v } else if w = wFrom then { s with f := v } else if w = wTo then { s with o := v } else if w = wId then { s with n := numL v } else s
def partsS : Nat → StL → List UInt8 → StL × List UInt8
  | 0, s, T => (s, T)
  | fuel + 1, s, T =>
    match T with
    | [] => (s, T)
    | c :: T' =>
      if c = 32 then
        match (Lib.cut T' [61]).2.1 with
        | [] => (s, T)
        | q :: R => if q = 39 then partsS fuel (withF s (Lib.cut T' [61]).1 (Lib.cut R [39]).1) (Lib.cut R [39]).2.1 else (s, T)
      else (s, T)
theorem parts_end (fuel : Nat) (s : StL) {c : UInt8} {T : List UInt8} (h : c ≠ 32) : partsS fuel s (c :: T) = (s, c :: T) := by
  cases fuel with
  | zero => rfl
  | succ n => simp only [partsS]; rw [if_neg h]
def withE (s : StL) (w v : List UInt8) : StL := if v = [] then s else withF s w v
theorem parts_fld (fuel : Nat) (s : StL) {w v R : List UInt8} (hw : ∀ x ∈ w, x ≠ 61) (hv : Quiet v) : ∃ fuel', fuel ≤ fuel' ∧ partsS (fuel + 1) s (fldL w v ++ R) = partsS fuel' (withE s w v) R := by
  by_cases hz : v = []
  · subst hz
    exact ⟨fuel + 1, by omega, rfl⟩
  · refine ⟨fuel, Nat.le_refl _, ?_⟩
    have e : fldL w v ++ R = 32 :: (w ++ 61 :: (39 :: (v ++ 39 :: R))) := by rw [fld_some hz]; simp
    have c1 := cut_app (c := 61) (A := w) (R := 39 :: (v ++ 39 :: R)) hw
    have c2 := cut_app (c := 39) (A := v) (R := R) (fun x hx => (hv x hx).2.1)
    rw [e]
    unfold withE
    rw [if_neg hz]
    simp only [partsS, if_true]
    rw [c1]
    simp only [if_true]
    rw [c2]
theorem parts_mark {k t f o : List UInt8} {n : Int} {b : List UInt8} (ht : Quiet t) (hf : Quiet f) (ho : Quiet o) (h0 : 0 ≤ n) (h1 : n ≤ 1000000000) (fuel : Nat) :
    partsS (fuel + 4) zeroL (fldL wType t ++ (fldL wFrom f ++ (fldL wTo o ++ (fldL wId (idL n) ++ endL k b)))) = (⟨[], t, f, o, n, []⟩, endL k b) := by
  obtain ⟨f1, l1, e1⟩ := parts_fld (fuel + 3) zeroL (w := wType) (v := t) (R := fldL wFrom f ++ (fldL wTo o ++ (fldL wId (idL n) ++ endL k b))) (by decide) ht
  obtain ⟨g1, rfl⟩ : ∃ g, f1 = g + 1 := ⟨f1 - 1, by omega⟩
  obtain ⟨f2, l2, e2⟩ := parts_fld g1 (withE zeroL wType t) (w := wFrom) (v := f) (R := fldL wTo o ++ (fldL wId (idL n) ++ endL k b)) (by decide) hf
  obtain ⟨g2, rfl⟩ : ∃ g, f2 = g + 1 := ⟨f2 - 1, by omega⟩
  obtain ⟨f3, l3, e3⟩ := parts_fld g2 (withE (withE zeroL wType t) wFrom f) (w := wTo) (v := o) (R := fldL wId (idL n) ++ endL k b) (by decide) ho
  obtain ⟨g3, rfl⟩ : ∃ g, f3 = g + 1 := ⟨f3 - 1, by omega⟩
  obtain ⟨f4, l4, e4⟩ := parts_fld g3 (withE (withE (withE zeroL wType t) wFrom f) wTo o) (w := wId) (v := idL n) (R := endL k b) (by decide) (quiet_id h0)
  rw [e1, e2, e3, e4]
  have e5 : ∀ s, partsS f4 s (endL k b) = (s, endL k b) := by
    intro s
    unfold endL
    split
    · exact parts_end _ _ (by decide)
    · exact parts_end _ _ (by decide)
  rw [e5]
  have a1 : withE zeroL wType t = ⟨[], t, [], [], 0, []⟩ := by
    unfold withE
    split
    · rename_i h; rw [h]; rfl
    · rfl
  have a2 : withE ⟨[], t, [], [], 0, []⟩ wFrom f = ⟨[], t, f, [], 0, []⟩ := by
    unfold withE
    split
    · rename_i h; rw [h]
    · rfl
  have a3 : withE ⟨[], t, f, [], 0, []⟩ wTo o = ⟨[], t, f, o, 0, []⟩ := by
    unfold withE
    split
    · rename_i h; rw [h]
    · rfl
  have a4 : withE ⟨[], t, f, o, 0, []⟩ wId (idL n) = ⟨[], t, f, o, n, []⟩ := by
    unfold withE
    split
    · rename_i h
      have hn : n = 0 := by
        by_cases hz : n = 0
        · exact hz
        · exact absurd h (id_some h0 h1 hz)
      rw [hn]
    · show (⟨[], t, f, o, numL (idL n), []⟩ : StL) = _
      rw [num_id h0 h1]
  rw [a1, a2, a3, a4]
/-- More fuel than the text is long changes nothing. -/
theorem cut_len (T : List UInt8) (c : UInt8) : (Lib.cut T [c]).2.1.length ≤ T.length - 1 := by
  rcases cut_form T c with ⟨A, R, rfl, h⟩ | h
  · rw [cut_app h]; simp
  · rw [cut_not h]; simp
theorem parts_fuel : ∀ (f g : Nat) (s : StL) (T : List UInt8), T.length ≤ f → T.length ≤ g → partsS f s T = partsS g s T
  | 0, g, s, T, hf, hg => by
    obtain rfl : T = [] := List.eq_nil_of_length_eq_zero (by omega)
    cases g <;> rfl
  | f + 1, 0, s, T, hf, hg => by
    obtain rfl : T = [] := List.eq_nil_of_length_eq_zero (by omega)
    rfl
  | f + 1, g + 1, s, T, hf, hg => by
    cases T with
    | nil => rfl
    | cons c T' =>
      simp only [partsS]
      split
      · have l1 := cut_len T' 61
        cases hc : (Lib.cut T' [61]).2.1 with
        | nil => rfl
        | cons q R =>
          simp only
          rw [hc] at l1
          simp only [List.length_cons] at l1 hf hg
          have l2 := cut_len R 39
          split
          · exact parts_fuel f g _ _ (by omega) (by omega)
          · rfl
      · rfl
end Go.Proofs.YtgcfognljkebjaaGreatDoor
