/- How impl.stanzaParts takes a text apart, on lists; it gives back a valid stanza from its mark. 'num' stands for what strconv.ParseInt answers. -/
import Derived.Test.YtgcfognljkebjaaGreatDoorStReadS
import Derived.Lib.SplitLaws
import Derived.Lib.TrimByte
import Derived.Lib.Strings
namespace Go.Proofs.YtgcfognljkebjaaGreatDoor
set_option linter.unusedSimpArgs false
set_option linter.unusedVariables false
open Go.Joins

theorem split_one {c : UInt8} {A : List UInt8} (h : ∀ x ∈ A, x ≠ c) : Lib.split A [c] = [A] := by
  unfold Lib.split
  rw [Lib.count_miss (index_not c A h)]
  rfl
theorem split_more {c : UInt8} {A R : List UInt8} (h : ∀ x ∈ A, x ≠ c) : Lib.split (A ++ c :: R) [c] = A :: Lib.split R [c] := by
  have hi := index_app c R A h
  have hd : (A ++ c :: R).drop (A.length + [c].length) = R := by
    have e : A ++ c :: R = (A ++ [c]) ++ R := by simp
    rw [e, show A.length + [c].length = (A ++ [c]).length by simp, List.drop_left]
  unfold Lib.split
  rw [Lib.count_hit (by simp) hi, hd, Nat.add_comm 1, Lib.splitK, if_neg (by rw [hi]; simp), hi, Int.toNat_natCast, hd, Nat.add_zero, List.take_left]
def joinW (fs : List (List UInt8)) : List UInt8 := fs.flatMap (fun f => 32 :: f)
theorem split_join : ∀ (fs : List (List UInt8)) (A : List UInt8), (∀ x ∈ A, x ≠ 32) → (∀ f ∈ fs, ∀ x ∈ f, x ≠ 32) → Lib.split (A ++ joinW fs) [32] = A :: fs
  | [], A, hA, _ => by
    rw [show A ++ joinW [] = A by simp [joinW]]
    exact split_one hA
  | f :: fs, A, hA, hf => by
    rw [show A ++ joinW (f :: fs) = A ++ 32 :: (f ++ joinW fs) by simp [joinW], split_more hA, split_join fs f (hf f (List.mem_cons_self ..)) (fun g hg => hf g (List.mem_cons_of_mem _ hg))]
/-- The word of a field; none, where the value is empty. -/
def fwL (w v : List UInt8) : List (List UInt8) := if v = [] then [] else [w ++ (61 :: 39 :: (v ++ [39]))]
theorem fw_join (w v : List UInt8) : joinW (fwL w v) = fldL w v := by
  unfold fwL fldL joinW
  split <;> simp
theorem joinW_app (a b : List (List UInt8)) : joinW (a ++ b) = joinW a ++ joinW b := by simp [joinW]
theorem fw_quiet {w v : List UInt8} (hw : ∀ x ∈ w, x ≠ 32) (hv : Quiet v) : ∀ f ∈ fwL w v, ∀ x ∈ f, x ≠ 32 := by
  intro f hf x hx
  unfold fwL at hf
  split at hf
  · cases hf
  · rw [List.mem_singleton] at hf
    subst hf
    rw [List.mem_append] at hx
    rcases hx with hx | hx
    · exact hw x hx
    · simp only [List.mem_cons, List.mem_append, List.not_mem_nil, or_false] at hx
      rcases hx with rfl | rfl | hx | rfl
      · decide
      · decide
      · exact (hv x hx).1
      · decide
theorem trim_quotes {v : List UInt8} (hv : ∀ x ∈ v, x ≠ 39) : Lib.trimB (39 :: (v ++ [39])) 39 = v := by
  have d : ∀ l : List UInt8, (∀ x ∈ l, x ≠ 39) → l.dropWhile (· == 39) = l := by
    intro l hl
    cases l with
    | nil => rfl
    | cons a l => rw [List.dropWhile_cons_of_neg]; simpa using hl a (List.mem_cons_self ..)
  unfold Lib.trimB Lib.trimRightB Lib.trimLeftB
  cases v with
  | nil => rfl
  | cons a v =>
    have e : (39 :: (a :: v ++ [39])).reverse = 39 :: ((a :: v).reverse ++ [39]) := by simp
    rw [e, List.dropWhile_cons_of_pos (by rfl)]
    have e2 : List.dropWhile (· == 39) ((a :: v).reverse ++ [39]) = (a :: v).reverse ++ [39] := by
      have hr : ∀ x ∈ (a :: v).reverse, x ≠ 39 := fun x hx => hv x (List.mem_reverse.1 hx)
      cases h : (a :: v).reverse with
      | nil => simp at h
      | cons b r =>
        rw [h] at hr
        rw [List.cons_append, List.dropWhile_cons_of_neg]
        simpa using hr b (List.mem_cons_self ..)
    rw [e2]
    have e3 : ((a :: v).reverse ++ [39]).reverse = 39 :: (a :: v) := by simp
    rw [e3, List.dropWhile_cons_of_pos (by rfl)]
    exact d _ hv
def withI (num : List UInt8 → Int) (s : StL) (w v : List UInt8) : StL :=
  if w = wType then { s with t := v } else if w = wFrom then { s with f := v } else if w = wTo then { s with o := v } else if w = wId then { s with n := num v } else s
def fieldI (num : List UInt8 → Int) (s : StL) (F : List UInt8) : StL := withI num s (Lib.cut F [61]).1 (Lib.trimB (Lib.cut F [61]).2.1 39)
theorem field_fw (num : List UInt8 → Int) (s : StL) {w v : List UInt8} (hw : ∀ x ∈ w, x ≠ 61) (hv : Quiet v) : (fwL w v).foldl (fieldI num) s = if v = [] then s else withI num s w v := by
  unfold fwL
  split
  · rfl
  · simp only [List.foldl_cons, List.foldl_nil]
    unfold fieldI
    rw [cut_app hw]
    simp only
    rw [trim_quotes (fun x hx => (hv x hx).2.1)]
/-- A mark's head, its bracket and its slash taken off. -/
def startI (T : List UInt8) : List UInt8 := Lib.trimSuffix (Lib.trimPrefix (Lib.cut T [62]).1 [60]) [47]
def wordsI (T : List UInt8) : List (List UInt8) := Lib.split (startI T) [32]
def bodyI (pl : List UInt8 → List UInt8) (k rest : List UInt8) : List UInt8 := pl (Lib.trimSuffix rest (60 :: 47 :: (k ++ [62])))
def rdI (num : List UInt8 → Int) (pl : List UInt8 → List UInt8) (T : List UInt8) : StL :=
  { (wordsI T).tail.foldl (fieldI num) { zeroL with k := (wordsI T).headD [] } with b := bodyI pl (wordsI T |>.headD []) (Lib.cut T [62]).2.1 }
theorem trim_pre (c : UInt8) (l : List UInt8) : Lib.trimPrefix (c :: l) [c] = l := by
  unfold Lib.trimPrefix
  rw [if_pos (by simp [Lib.hasPrefix])]
  rfl
theorem trim_suf (l m : List UInt8) : Lib.trimSuffix (l ++ m) m = l := by
  unfold Lib.trimSuffix
  rw [if_pos (by simp [Lib.hasSuffix])]
  simp
theorem trim_suf_not {l : List UInt8} {c d : UInt8} (h : d ≠ c) : Lib.trimSuffix (l ++ [d]) [c] = l ++ [d] := by
  unfold Lib.trimSuffix
  rw [if_neg (by simp [Lib.hasSuffix]; exact fun e => h e.symm)]
/-- A word of a mark: no space, no bracket that closes, a quote at its end. -/
def Word (f : List UInt8) : Prop := (∀ x ∈ f, x ≠ 32 ∧ x ≠ 62) ∧ ∃ g, f = g ++ [39]
theorem fw_word {w v : List UInt8} (hw : ∀ x ∈ w, x ≠ 32 ∧ x ≠ 62) (hv : Quiet v) : ∀ f ∈ fwL w v, Word f := by
  intro f hf
  unfold fwL at hf
  split at hf
  · cases hf
  · rw [List.mem_singleton] at hf
    subst hf
    refine ⟨fun x hx => ?_, w ++ (61 :: 39 :: v), by simp⟩
    rw [List.mem_append] at hx
    rcases hx with hx | hx
    · exact hw x hx
    · simp only [List.mem_cons, List.mem_append, List.not_mem_nil, or_false] at hx
      rcases hx with rfl | rfl | hx | rfl
      · decide
      · decide
      · exact ⟨(hv x hx).1, (hv x hx).2.2.2⟩
      · decide
theorem join_no {fs : List (List UInt8)} (h : ∀ f ∈ fs, Word f) : ∀ x ∈ joinW fs, x ≠ 62 := by
  intro x hx
  unfold joinW at hx
  obtain ⟨f, hf, hx⟩ := List.mem_flatMap.1 hx
  rcases List.mem_cons.1 hx with rfl | hx
  · decide
  · exact ((h f hf).1 x hx).2
theorem join_end {k : List UInt8} (hk : ∃ l d, k = l ++ [d] ∧ d ≠ 47) {fs : List (List UInt8)} (h : ∀ f ∈ fs, Word f) : ∃ l d, k ++ joinW fs = l ++ [d] ∧ d ≠ 47 := by
  rcases List.eq_nil_or_concat fs with rfl | ⟨gs, f, rfl⟩
  · rw [show k ++ joinW [] = k by simp [joinW]]
    exact hk
  · obtain ⟨g, rfl⟩ := (h f (by simp)).2
    exact ⟨k ++ joinW gs ++ 32 :: g, 39, by simp [joinW], by decide⟩
theorem kind_end {k : List UInt8} (h : k ∈ kindsL) : (∃ l d, k = l ++ [d] ∧ d ≠ 47) ∧ ∀ x ∈ k, x ≠ 32 ∧ x ≠ 62 := by
  unfold kindsL at h
  simp only [List.mem_cons, List.not_mem_nil, or_false] at h
  rcases h with rfl | rfl | rfl | rfl
  · exact ⟨⟨[112, 114, 101, 115, 101, 110, 99], 101, rfl, by decide⟩, by decide⟩
  · exact ⟨⟨[109, 101, 115, 115, 97, 103], 101, rfl, by decide⟩, by decide⟩
  · exact ⟨⟨[105], 113, rfl, by decide⟩, by decide⟩
  · exact ⟨⟨[100], 98, rfl, by decide⟩, by decide⟩
theorem start_mark {k : List UInt8} (hk : k ∈ kindsL) {fs : List (List UInt8)} (h : ∀ f ∈ fs, Word f) (b : List UInt8) :
    startI (60 :: (k ++ joinW fs) ++ endL k b) = k ++ joinW fs ∧ (Lib.cut (60 :: (k ++ joinW fs) ++ endL k b) [62]).2.1 = if b = [] then [] else escL b ++ (60 :: 47 :: (k ++ [62])) := by
  obtain ⟨he, hq⟩ := kind_end hk
  have hno : ∀ x ∈ 60 :: (k ++ joinW fs), x ≠ 62 := by
    intro x hx
    rcases List.mem_cons.1 hx with rfl | hx
    · decide
    · rcases List.mem_append.1 hx with hx | hx
      · exact (hq x hx).2
      · exact join_no h x hx
  unfold endL startI
  split
  · rename_i hb
    have e : 60 :: (k ++ joinW fs) ++ [47, 62] = (60 :: (k ++ joinW fs) ++ [47]) ++ 62 :: [] := by simp
    have c := cut_app (c := 62) (A := 60 :: (k ++ joinW fs) ++ [47]) (R := []) (by
      intro x hx
      rcases List.mem_append.1 hx with hx | hx
      · exact hno x hx
      · rw [List.mem_singleton] at hx; subst hx; decide)
    rw [e, c]
    refine ⟨?_, rfl⟩
    simp only
    rw [List.cons_append, trim_pre, trim_suf]
  · rename_i hb
    have c := cut_app (c := 62) (A := 60 :: (k ++ joinW fs)) (R := escL b ++ (60 :: 47 :: (k ++ [62]))) hno
    rw [c]
    refine ⟨?_, rfl⟩
    simp only
    obtain ⟨l, d, e, hd⟩ := join_end he h
    rw [trim_pre, e, trim_suf_not hd]
theorem rdI_mark {num : List UInt8 → Int} {pl : List UInt8 → List UInt8} {k t f o : List UInt8} {n : Int} {b : List UInt8} (hk : k ∈ kindsL) (ht : Quiet t) (hf : Quiet f) (ho : Quiet o) (h0 : 0 ≤ n) (h1 : n ≤ 1000000000)
    (hnum : n ≠ 0 → num (idL n) = n) (hpl : pl (escL b) = b) : rdI num pl (markL k t f o n b) = ⟨k, t, f, o, n, b⟩ := by
  have hw : ∀ F ∈ fwL wType t ++ (fwL wFrom f ++ (fwL wTo o ++ fwL wId (idL n))), Word F := by
    intro F hF
    simp only [List.mem_append] at hF
    rcases hF with hF | hF | hF | hF
    · exact fw_word (by decide) ht F hF
    · exact fw_word (by decide) hf F hF
    · exact fw_word (by decide) ho F hF
    · exact fw_word (by decide) (quiet_id h0) F hF
  have e : markL k t f o n b = 60 :: (k ++ joinW (fwL wType t ++ (fwL wFrom f ++ (fwL wTo o ++ fwL wId (idL n))))) ++ endL k b := by
    unfold markL headL
    rw [joinW_app, joinW_app, joinW_app, fw_join, fw_join, fw_join, fw_join]
  obtain ⟨s1, s2⟩ := start_mark hk hw b
  have hW : wordsI (markL k t f o n b) = k :: (fwL wType t ++ (fwL wFrom f ++ (fwL wTo o ++ fwL wId (idL n)))) := by
    unfold wordsI
    rw [e, s1]
    exact split_join _ _ (fun x hx => ((kind_end hk).2 x hx).1) (fun F hF x hx => ((hw F hF).1 x hx).1)
  unfold rdI
  rw [hW, e, s2]
  simp only [List.tail_cons, List.headD_cons, List.foldl_append]
  rw [field_fw num _ (by decide) ht, field_fw num _ (by decide) hf, field_fw num _ (by decide) ho, field_fw num _ (by decide) (quiet_id h0)]
  have a1 : (if t = [] then ({ zeroL with k := k } : StL) else withI num { zeroL with k := k } wType t) = ⟨k, t, [], [], 0, []⟩ := by
    split
    · rename_i h; rw [h]; rfl
    · rfl
  rw [a1]
  have a2 : (if f = [] then (⟨k, t, [], [], 0, []⟩ : StL) else withI num ⟨k, t, [], [], 0, []⟩ wFrom f) = ⟨k, t, f, [], 0, []⟩ := by
    split
    · rename_i h; rw [h]
    · rfl
  rw [a2]
  have a3 : (if o = [] then (⟨k, t, f, [], 0, []⟩ : StL) else withI num ⟨k, t, f, [], 0, []⟩ wTo o) = ⟨k, t, f, o, 0, []⟩ := by
    split
    · rename_i h; rw [h]
    · rfl
  rw [a3]
  have a4 : (if idL n = [] then (⟨k, t, f, o, 0, []⟩ : StL) else withI num ⟨k, t, f, o, 0, []⟩ wId (idL n)) = ⟨k, t, f, o, n, []⟩ := by
    by_cases hz : n = 0
    · subst hz; rfl
    · rw [if_neg (id_some h0 h1 hz)]
      show (⟨k, t, f, o, num (idL n), []⟩ : StL) = _
      rw [hnum hz]
  rw [a4]
  have a5 : bodyI pl k (if b = [] then [] else escL b ++ (60 :: 47 :: (k ++ [62]))) = b := by
    unfold bodyI
    split
    · rename_i h
      have : Lib.trimSuffix [] (60 :: 47 :: (k ++ [62])) = [] := by unfold Lib.trimSuffix; split <;> simp
      rw [this]
      rw [h] at hpl ⊢
      exact hpl
    · rw [trim_suf]
      exact hpl
  rw [a5]
end Go.Proofs.YtgcfognljkebjaaGreatDoor
