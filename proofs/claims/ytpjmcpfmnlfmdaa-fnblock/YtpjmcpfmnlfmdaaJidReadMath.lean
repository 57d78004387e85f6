/- The mathematics of reading an address: lists of bytes cut at a mark. Nothing of the program. -/
import Derived.Lib.IndexMore
import Derived.Lib.IndexBytes
import Derived.Lib.IndexLaws
namespace Go.Proofs.Ytpjmcpfmnlfmdaa
set_option linter.unusedSimpArgs false
set_option linter.unusedVariables false

/-- A byte with A-Z as a-z. -/
def lowC (c : UInt8) : UInt8 := if 65 ≤ c.toNat ∧ c.toNat ≤ 90 then UInt8.ofNat (c.toNat + 32) else c
theorem lowC_slash (c : UInt8) : lowC c = 47 ↔ c = 47 := by
  have h : ∀ x : Fin 256, (lowC (UInt8.ofNat x.val) = 47 ↔ UInt8.ofNat x.val = 47) := by decide +kernel
  have := h ⟨c.toNat, c.toNat_lt⟩
  simpa using this
theorem index_app (c : UInt8) (R : List UInt8) : ∀ A : List UInt8, (∀ x ∈ A, x ≠ c) → Lib.index (A ++ c :: R) [c] = (A.length : Int)
  | [], _ => by
    unfold Lib.index
    simp [List.isPrefixOf]
  | a :: A, h => by
    have ih := index_app c R A (fun x hx => h x (List.mem_cons_of_mem _ hx))
    have ha : (c == a) = false := beq_eq_false_iff_ne.2 (fun e => h a (List.mem_cons_self) e.symm)
    rw [List.cons_append]
    unfold Lib.index
    rw [if_neg (by simp [List.isPrefixOf, ha]), ih, if_neg (by simp)]
    simp
theorem index_not (c : UInt8) : ∀ A : List UInt8, (∀ x ∈ A, x ≠ c) → Lib.index A [c] = -1
  | [], _ => by unfold Lib.index; rfl
  | a :: A, h => by
    have ih := index_not c A (fun x hx => h x (List.mem_cons_of_mem _ hx))
    have ha : (c == a) = false := beq_eq_false_iff_ne.2 (fun e => h a (List.mem_cons_self) e.symm)
    unfold Lib.index
    rw [if_neg (by simp [List.isPrefixOf, ha]), ih]
    rfl
theorem cut_app {c : UInt8} {A R : List UInt8} (h : ∀ x ∈ A, x ≠ c) : Lib.cut (A ++ c :: R) [c] = (A, R, true) := by
  unfold Lib.cut
  rw [index_app c R A h, if_pos (by omega)]
  simp
theorem cut_not {c : UInt8} {A : List UInt8} (h : ∀ x ∈ A, x ≠ c) : Lib.cut A [c] = (A, [], false) := by
  unfold Lib.cut
  rw [index_not c A h, if_neg (by omega)]
theorem cut_form (T : List UInt8) (c : UInt8) : (∃ A R, T = A ++ c :: R ∧ (∀ x ∈ A, x ≠ c)) ∨ ∀ x ∈ T, x ≠ c := by
  by_cases h : c ∈ T
  · obtain ⟨A, R, e, hn⟩ := List.eq_append_cons_of_mem h
    exact .inl ⟨A, R, e, fun x hx e => hn (e ▸ hx)⟩
  · exact .inr fun x hx e => h (e ▸ hx)

/-- A text with its letters before the first slash in lower case. -/
def lowL (T : List UInt8) : List UInt8 := (Lib.cut T [47]).1.map lowC ++ T.drop (Lib.cut T [47]).1.length
def partsL (U : List UInt8) : List UInt8 × List UInt8 × List UInt8 :=
  if (Lib.cut (Lib.cut U [47]).1 [64]).2.2 then ((Lib.cut (Lib.cut U [47]).1 [64]).1, (Lib.cut (Lib.cut U [47]).1 [64]).2.1, (Lib.cut U [47]).2.1) else ([], (Lib.cut U [47]).1, (Lib.cut U [47]).2.1)
def textL (p : List UInt8 × List UInt8 × List UInt8) : List UInt8 := p.1 ++ ((if p.1 = [] then [] else [64]) ++ (p.2.1 ++ ((if p.2.2 = [] then [] else [47]) ++ p.2.2)))
/-- Has no mark of this text an empty part beside it? -/
def shapeL (T : List UInt8) : Bool :=
  !((Lib.cut T [47]).2.2 && (Lib.cut T [47]).2.1.isEmpty) && !((Lib.cut ((Lib.cut T [47]).1.map lowC) [64]).2.2 && (Lib.cut ((Lib.cut T [47]).1.map lowC) [64]).1.isEmpty)
/-- What a text is read as, if it is. -/
def readL (T : List UInt8) : List UInt8 × List UInt8 × List UInt8 :=
  if (Lib.cut ((Lib.cut T [47]).1.map lowC) [64]).2.2 then ((Lib.cut ((Lib.cut T [47]).1.map lowC) [64]).1, (Lib.cut ((Lib.cut T [47]).1.map lowC) [64]).2.1, (Lib.cut T [47]).2.1) else ([], (Lib.cut T [47]).1.map lowC, (Lib.cut T [47]).2.1)
theorem low_no {A : List UInt8} (h : ∀ x ∈ A, x ≠ 47) : ∀ x ∈ A.map lowC, x ≠ 47 := by
  intro x hx
  obtain ⟨y, hy, rfl⟩ := List.mem_map.1 hx
  exact fun e => h y hy ((lowC_slash y).1 e)
theorem lowL_app {A R : List UInt8} (h : ∀ x ∈ A, x ≠ 47) : lowL (A ++ 47 :: R) = A.map lowC ++ 47 :: R := by
  unfold lowL
  rw [cut_app h]
  simp
theorem lowL_not {A : List UInt8} (h : ∀ x ∈ A, x ≠ 47) : lowL A = A.map lowC := by
  unfold lowL
  rw [cut_not h]
  simp
theorem parts_read (T : List UInt8) : partsL (lowL T) = readL T := by
  unfold partsL readL
  rcases cut_form T 47 with ⟨A, R, rfl, h⟩ | h
  · rw [lowL_app h, cut_app (low_no h), cut_app h]
  · rw [lowL_not h, cut_not (low_no h), cut_not h]
theorem len_ne {A B : List UInt8} (h : A.length ≠ B.length) : A ≠ B := fun e => h (by rw [e])
theorem text_shape (T : List UInt8) : textL (partsL (lowL T)) = lowL T ↔ shapeL T = true := by
  rw [parts_read]
  unfold readL shapeL textL
  rcases cut_form T 47 with ⟨A, R, rfl, h⟩ | h
  · rw [lowL_app h, cut_app h]
    dsimp only
    obtain ⟨q, hq⟩ : ∃ q, A.map lowC = q := ⟨_, rfl⟩
    rw [hq]
    rcases cut_form q 64 with ⟨B, D, rfl, h2⟩ | h2
    · rw [cut_app h2]
      cases B with
      | nil =>
        cases R with
        | nil =>
          simp
          exact len_ne (by simp; omega)
        | cons r R =>
          simp only [Bool.true_and, List.isEmpty_nil, List.isEmpty_cons, Bool.not_true, Bool.not_false, Bool.and_false, Bool.false_eq_true, iff_false]
          exact len_ne (by simp)
      | cons b B =>
        cases R with
        | nil => simp
        | cons r R => simp
    · rw [cut_not h2]
      cases R with
      | nil => simp
      | cons r R => simp
  · rw [lowL_not h, cut_not h]
    dsimp only
    obtain ⟨q, hq⟩ : ∃ q, T.map lowC = q := ⟨_, rfl⟩
    rw [hq]
    rcases cut_form q 64 with ⟨B, D, rfl, h2⟩ | h2
    · rw [cut_app h2]
      cases B with
      | nil => simp
      | cons b B => simp
    · rw [cut_not h2]
      simp
theorem read_le (T : List UInt8) : (readL T).1.length ≤ T.length ∧ (readL T).2.1.length ≤ T.length ∧ (readL T).2.2.length ≤ T.length := by
  unfold readL
  rcases cut_form T 47 with ⟨A, R, rfl, h⟩ | h
  · rw [cut_app h]
    dsimp only
    have hl : (A.map lowC).length = A.length := List.length_map ..
    rcases cut_form (A.map lowC) 64 with ⟨B, D, e, h2⟩ | h2
    · rw [e, cut_app h2]
      rw [e] at hl
      simp at hl ⊢
      omega
    · rw [cut_not h2]
      simp
      omega
  · rw [cut_not h]
    dsimp only
    have hl : (T.map lowC).length = T.length := List.length_map ..
    rcases cut_form (T.map lowC) 64 with ⟨B, D, e, h2⟩ | h2
    · rw [e, cut_app h2]
      rw [e] at hl
      simp at hl ⊢
      omega
    · rw [cut_not h2]
      simp
end Go.Proofs.Ytpjmcpfmnlfmdaa
