/- Several parts in one text: RowsC, SeRow, SeMath, SeCmp, SeSmall, SeRightI, HandQ, SmJoin, SeRightS, ArSession, EqSession, SeFrame, SeLawR, SeAt, SeCopy, SeWithI, RowMk0, StForms, StEscMath, StTextMath, StEscS, StTextS, MarkText, RowMk, RwSession, SeOutL, RwStr, SeLw, SeLwS, SeWithS, SeUnbS, SeUnbI, SeBindS, SeInsI, SeBindI, SeWithP, DrawBase, EdgeBase, PickDraws, MbRow, EqMsg, ArMsg, SeStrs. -/
import Derived.Test.YtafdjjdmcnlddaaGreatChecked
import Derived.Test.YtafdjjdmcnlddaaGreatHIA
import Derived.WalkSmall
import Derived.Lib.SmallJoins
import Derived.WalkKit
import Derived.ProofKit
import Derived.OpenShut
import Derived.ShutString
import Derived.Deep.Slices
import Derived.Deep.RegionHeld3
import Derived.IntWalk
import Derived.Laws.Cover1
import Derived.Deep.DeepFit
import Derived.Deep.MidRow
import Derived.Laws.CopyOwn
import Derived.OwnWalk
import Derived.Laws.AppendOwn
import Derived.Maps.OwnSet
import Derived.Maps.RangeWalk
import Derived.Maps.Ext
import Derived.Lib.ItoaNum
import Derived.Lib.AppendStr
import Derived.Lib.SliceRun
import Derived.Shelf.Spec.SlicesInsertGrow
import Derived.Deep.QuietTactic
import Derived.BigQuiet
import Derived.RegionTactic
namespace Go.Proofs.YtafdjjdmcnlddaaGreat
set_option linter.unusedSimpArgs false
set_option linter.unusedVariables false
open Go.RowKit

/-- The slice v, which the call has made, holds these elements. -/
def OwnC {α : Type} (enc : α → List Value) (w : World) (B e size : Nat) (v : Value) (xs : List α) : Prop := w.ownsRow B e size v xs.length (xs.flatMap enc)
theorem ownC_nil {α : Type} (enc : α → List Value) (w : World) (B e size : Nat) : OwnC enc w B e size (.slice none 0 0) [] := World.ownsRow_nil _ _ _ _
theorem OwnC.alloc {α : Type} {enc : α → List Value} {w : World} {B e size : Nat} {v : Value} {xs : List α} (h : OwnC enc w B e size v xs) (o : Obj) : OwnC enc (w.alloc o) B e size v xs := World.ownsRow.alloc h o
theorem OwnC.drew {α : Type} {enc : α → List Value} {w : World} {B e size : Nat} {v : Value} {xs : List α} (h : OwnC enc w B e size v xs) : OwnC enc w.drew B e size v xs := h
theorem OwnC.low {α : Type} {enc : α → List Value} {w : World} {B e size : Nat} {v : Value} {xs : List α} (h : OwnC enc w B e size v xs) {a : Addr} (ha : a.block < B) (u : Value) : OwnC enc (w.setCell a u) B e size v xs := ownsRow_setCell_below h ha u
theorem ownsRow_on {w w' : World} {B e size n : Nat} {v : Value} {xs : List Value} (h : w.ownsRow B e size v n xs) (hb : Below w.heap.size w w') : w'.ownsRow B e size v n xs := by
  refine ⟨h.1, ?_⟩
  rcases h.2 with h0 | ⟨g, cap, cur, h1, h2, h3, h4⟩
  · exact .inl h0
  · have hlt : g < w.heap.size := (Array.getElem?_eq_some_iff.1 h3).1
    exact .inr ⟨g, cap, cur, h1, h2, (hb.block g hlt).trans h3, h4⟩
theorem OwnC.on {α : Type} {enc : α → List Value} {w w' : World} {B e size : Nat} {v : Value} {xs : List α} (h : OwnC enc w B e size v xs) (hb : Below w.heap.size w w') : OwnC enc w' B e size v xs := ownsRow_on h hb
theorem OwnC.mono {α : Type} {enc : α → List Value} {w : World} {B B' e size : Nat} {v : Value} {xs : List α} (h : OwnC enc w B e size v xs) (hB : B' ≤ B) : OwnC enc w B' e size v xs := by
  refine ⟨h.1, ?_⟩
  rcases h.2 with h0 | ⟨g, cap, cur, h1, h2, h3⟩
  · exact .inl h0
  · exact .inr ⟨g, cap, cur, h1, Nat.le_trans hB h2, h3⟩
theorem OwnC.base {α : Type} {enc : α → List Value} {w : World} {B e size : Nat} {v : Value} {xs : List α} (h : OwnC enc w B e size v xs) : ∀ k, v.ownBlock = some k → B ≤ k := own_base h
theorem flat_len {α : Type} {enc : α → List Value} {size : Nat} (hlen : ∀ x, (enc x).length = size) (xs : List α) : (xs.flatMap enc).length = xs.length * size := by
  induction xs with
  | nil => simp
  | cons x xs ih => rw [List.flatMap_cons, List.length_append, hlen, ih, List.length_cons, Nat.add_mul, Nat.one_mul, Nat.add_comm]
theorem flat_at {α : Type} {enc : α → List Value} {size : Nat} (hlen : ∀ x, (enc x).length = size) : ∀ (xs : List α) (i j : Nat) (hi : i < xs.length), j < size → (xs.flatMap enc)[i * size + j]? = (enc xs[i])[j]?
  | x :: xs, 0, j, hi, hj => by
    rw [List.flatMap_cons, Nat.zero_mul, Nat.zero_add, List.getElem?_append_left (by rw [hlen]; exact hj)]
    rfl
  | x :: xs, i + 1, j, hi, hj => by
    rw [List.flatMap_cons, List.getElem?_append_right (by rw [hlen, Nat.add_mul, Nat.one_mul]; omega), hlen, show (i + 1) * size + j - size = i * size + j by rw [Nat.add_mul, Nat.one_mul]; omega]
    exact flat_at hlen xs i j (by simpa using hi) hj
/-- The cells of element i. -/
theorem OwnC.cell {α : Type} {enc : α → List Value} {w : World} {B e size g n cap : Nat} {xs : List α} (hlen : ∀ x, (enc x).length = size) (h : OwnC enc w B e size (.slice (some ⟨g, 0, none⟩) n cap) xs) (i j : Nat) (hi : i < xs.length) (hj : j < size) :
    w.cell? ⟨g, i * size + j, none⟩ = (enc xs[i])[j]? := by
  have h1 := flat_at hlen xs i j hi hj
  obtain ⟨u, hu⟩ : ∃ u, (enc xs[i])[j]? = some u := ⟨(enc xs[i])[j]'(by rw [hlen]; exact hj), List.getElem?_eq_getElem _⟩
  rw [hu] at h1 ⊢
  have := World.ownsRow.cells h (g := g) rfl (i * size + j) u h1
  rw [show (⟨g, 0, none⟩ : Addr).add (i * size + j) = ⟨g, i * size + j, none⟩ by unfold Addr.add; split <;> simp_all] at this
  exact this
/-- A slice from the head of a block, which holds these elements. -/
def RowC {α : Type} (enc : α → List Value) (size : Nat) (w : World) (p : Option Addr) (xs : List α) : Prop := xs ≠ [] → ∃ g, p = some ⟨g, 0, none⟩ ∧ g < w.heap.size ∧ ∀ i (h : i < xs.length) j, j < size → w.cell? ⟨g, i * size + j, none⟩ = (enc xs[i])[j]?
theorem RowC.on {α : Type} {enc : α → List Value} {size : Nat} {w w' : World} {p : Option Addr} {xs : List α} (h : RowC enc size w p xs) (hb : Below w.heap.size w w') : RowC enc size w' p xs := by
  intro hx
  obtain ⟨g, h1, h2, h3⟩ := h hx
  exact ⟨g, h1, Nat.lt_of_lt_of_le h2 hb.size, fun i hi j hj => (hb.cell (p := ⟨g, i * size + j, none⟩) h2).trans (h3 i hi j hj)⟩
theorem OwnC.row {α : Type} {enc : α → List Value} {w : World} {B e size : Nat} {v : Value} {xs : List α} (hlen : ∀ x, (enc x).length = size) (h : OwnC enc w B e size v xs) : ∃ p cap, v = .slice p xs.length cap ∧ RowC enc size w p xs := by
  rcases h.2 with ⟨h0, h1⟩ | ⟨g, cap, cur, h1, h2, h3, h4⟩
  · refine ⟨none, 0, by rw [h0, h1], fun hx => ?_⟩
    exact absurd (List.eq_nil_of_length_eq_zero h1) hx
  · subst h1
    exact ⟨some ⟨g, 0, none⟩, cap, rfl, fun _ => ⟨g, rfl, (Array.getElem?_eq_some_iff.1 h3).1, fun i hi j hj => OwnC.cell hlen h i j hi hj⟩⟩
end Go.Proofs.YtafdjjdmcnlddaaGreat

namespace Go.Proofs.YtafdjjdmcnlddaaGreat
set_option linter.unusedSimpArgs false
set_option linter.unusedVariables false
open Go.ChangeShapes Go.WideShapes Go.ChangeAt Go.RowKit Go.Joins

/-- A session: resource, on, priority, show. -/
structure SeL where
  r : ByteArray
  o : Bool
  p : Int
  s : ByteArray
instance : Inhabited SeL := ⟨⟨ByteArray.empty, false, 0, ByteArray.empty⟩⟩
def seC (x : SeL) : List Value := [.string x.r, .bool x.o, .int .i64 x.p, .string x.s]
def seV (x : SeL) : Value := .agg #[.string x.r, .bool x.o, .int .i64 x.p, .string x.s]
theorem seC_len (x : SeL) : (seC x).length = 4 := rfl
theorem seC_one (x : SeL) : ∀ u ∈ seC x, u.oneCell' = true := by
  intro u hu
  simp [seC] at hu
  rcases hu with rfl | rfl | rfl | rfl <;> rfl
/-- Strings and numbers as the machine has them. -/
def SeL.wf (x : SeL) : Prop := x.r.size ≤ maxLen ∧ (Lit.int .i64 x.p).wf = true ∧ x.s.size ≤ maxLen
theorem cellsStr9 : Tryz.prog.cellsOf 9 = 1 := by kernel_rfl
theorem cellsI649 : Tryz.prog.cellsOf 2 = 1 := by kernel_rfl
theorem cellsBo9 : Tryz.prog.cellsOf 4 = 1 := by kernel_rfl
/-- The elements of a slice that came in lie at a stretch of a block. -/
def RowA {α : Type} (enc : α → List Value) (size : Nat) (w : World) (p : Option Addr) (xs : List α) : Prop := xs ≠ [] → ∃ g o, p = some ⟨g, o, none⟩ ∧ g < w.heap.size ∧ ∀ i (h : i < xs.length) j, j < size → w.cell? ⟨g, o + (i * size + j), none⟩ = (enc xs[i])[j]?
theorem RowA.below {α : Type} {enc : α → List Value} {size : Nat} {w w' : World} {p : Option Addr} {xs : List α} (h : RowA enc size w p xs) (hb : Below w.heap.size w w') : RowA enc size w' p xs := by
  intro hx
  obtain ⟨g, o, h1, h2, h3⟩ := h hx
  exact ⟨g, o, h1, Nat.lt_of_lt_of_le h2 hb.size, fun i hi j hj => (hb.cell (p := ⟨g, o + (i * size + j), none⟩) h2).trans (h3 i hi j hj)⟩
def IncR (xs : List SeL) (n : Nat) : Prop := ∀ i (h : i < xs.length), 0 < i → i < n → ∀ h' : i - 1 < xs.length, Op.bytesLess xs[i - 1].r.toList xs[i].r.toList = true
open Classical in
noncomputable def incB (xs : List SeL) : Bool := decide (IncR xs xs.length)
theorem incB_true {xs : List SeL} (h : IncR xs xs.length) : incB xs = true := by unfold incB; simpa using h
theorem incB_false {xs : List SeL} (h : ¬ IncR xs xs.length) : incB xs = false := by unfold incB; simpa using h
theorem incB_iff {xs : List SeL} : incB xs = true ↔ IncR xs xs.length := by unfold incB; simp
theorem incR_zero (xs : List SeL) : IncR xs 1 := fun i _ h0 h1 => by omega
theorem incR_succ {xs : List SeL} {k : Nat} (h : IncR xs k) (hk : k < xs.length) (h1 : 0 < k → ∀ h' : k - 1 < xs.length, Op.bytesLess xs[k - 1].r.toList xs[k].r.toList = true) : IncR xs (k + 1) := by
  intro i hi h0 hlt h'
  by_cases e : i = k
  · subst e; exact h1 h0 h'
  · exact h i hi h0 (by omega) h'
theorem row_se4 {w : World} {p : Option Addr} {xs : List SeL} (h : RowC seC 4 w p xs) {i : Nat} (hi : i < xs.length) : ∃ g, p = some ⟨g, 0, none⟩ ∧ g < w.heap.size ∧ w.cell? ⟨g, i * 4, none⟩ = some (.string xs[i].r) ∧ w.cell? ⟨g, i * 4 + 1, none⟩ = some (.bool xs[i].o) ∧ w.cell? ⟨g, i * 4 + 2, none⟩ = some (.int .i64 xs[i].p) ∧ w.cell? ⟨g, i * 4 + 3, none⟩ = some (.string xs[i].s) := by
  obtain ⟨g, h1, h2, h3⟩ := h (List.ne_nil_of_length_pos (by omega))
  exact ⟨g, h1, h2, h3 i hi 0 (by decide), h3 i hi 1 (by decide), h3 i hi 2 (by decide), h3 i hi 3 (by decide)⟩

theorem sl_self : ∀ a : List UInt8, Op.bytesLess a a = false
  | [] => rfl
  | c :: a => by
    unfold Op.bytesLess
    rw [sl_self a]
    simp
theorem sl_trans : ∀ a b c : List UInt8, Op.bytesLess a b = true → Op.bytesLess b c = true → Op.bytesLess a c = true
  | _, [], [], h, h' => by cases h'
  | [], [], _ :: _, h, _ => by cases h
  | _ :: _, [], _, h, _ => by cases h
  | [], _ :: _, [], _, h' => by cases h'
  | [], _ :: _, _ :: _, _, _ => rfl
  | _ :: _, _ :: _, [], _, h' => by cases h'
  | a :: x, b :: y, c :: z, h, h' => by
    have ih := sl_trans x y z
    unfold Op.bytesLess at h h' ⊢
    simp only [Bool.or_eq_true, decide_eq_true_eq, Bool.and_eq_true, beq_iff_eq] at h h' ⊢
    rcases h with h | ⟨rfl, h⟩
    · rcases h' with h' | ⟨rfl, h'⟩
      · exact .inl (UInt8.lt_trans h h')
      · exact .inl h
    · rcases h' with h' | ⟨rfl, h'⟩
      · exact .inl h'
      · exact .inr ⟨rfl, ih h h'⟩
/-- How many resources are less than r, from the first on. -/
def posS (r : ByteArray) : List SeL → Nat
  | [] => 0
  | x :: t => if Op.bytesLess x.r.toList r.toList then posS r t + 1 else 0
theorem pos_le (r : ByteArray) : ∀ xs, posS r xs ≤ xs.length
  | [] => Nat.le_refl _
  | x :: t => by
    unfold posS
    have := pos_le r t
    split
    · simp; omega
    · exact Nat.zero_le _
theorem pos_lo {r : ByteArray} : ∀ {xs : List SeL} {i : Nat} (hi : i < xs.length), i < posS r xs → Op.bytesLess xs[i].r.toList r.toList = true
  | x :: t, 0, _, h => by
    unfold posS at h
    split at h
    · assumption
    · exact absurd h (Nat.not_lt_zero _)
  | x :: t, i + 1, hi, h => by
    unfold posS at h
    split at h
    · exact pos_lo (xs := t) (by simpa using hi) (by omega)
    · exact absurd h (Nat.not_lt_zero _)
theorem pos_at {r : ByteArray} : ∀ {xs : List SeL} (h : posS r xs < xs.length), Op.bytesLess xs[posS r xs].r.toList r.toList = false
  | x :: t, h => by
    by_cases hx : Op.bytesLess x.r.toList r.toList = true
    · have e : posS r (x :: t) = posS r t + 1 := by show (if _ then _ else _) = _; rw [if_pos hx]
      have h' : posS r t < t.length := by rw [e] at h; simpa using h
      have := pos_at (xs := t) h'
      simp only [e, List.getElem_cons_succ]
      exact this
    · have e : posS r (x :: t) = 0 := by show (if _ then _ else _) = _; rw [if_neg hx]
      simp only [e, List.getElem_cons_zero]
      exact Bool.eq_false_iff.2 hx
theorem inc_all {xs : List SeL} (h : IncR xs xs.length) : ∀ (j i : Nat) (hj : j < xs.length) (hij : i < j), Op.bytesLess (xs[i]'(by omega)).r.toList xs[j].r.toList = true
  | 0, i, _, hij => absurd hij (Nat.not_lt_zero _)
  | j + 1, i, hj, hij => by
    have h1 := h (j + 1) hj (by omega) hj (by show j < xs.length; omega)
    simp only [Nat.add_sub_cancel] at h1
    by_cases e : i = j
    · subst e; exact h1
    · exact sl_trans _ _ _ (inc_all h j i (by omega) (by omega)) h1
/-- Is there a session of this resource? -/
def hereB (r : ByteArray) (xs : List SeL) : Bool := match xs[posS r xs]? with
  | some x => x.r.toList == r.toList
  | none => false
theorem here_at {r : ByteArray} {xs : List SeL} (hp : posS r xs < xs.length) : hereB r xs = (xs[posS r xs].r.toList == r.toList) := by
  unfold hereB
  rw [List.getElem?_eq_getElem hp]
theorem here_end {r : ByteArray} {xs : List SeL} (hp : ¬ posS r xs < xs.length) : hereB r xs = false := by
  unfold hereB
  rw [List.getElem?_eq_none (by omega)]
/-- The only session of its resource is the one there. -/
theorem here_only {r : ByteArray} {xs : List SeL} (h : IncR xs xs.length) {i : Nat} (hi : i < xs.length) (he : xs[i].r.toList = r.toList) : i = posS r xs ∧ hereB r xs = true := by
  have h1 : posS r xs ≤ i := by
    rcases Nat.lt_or_ge i (posS r xs) with hl | hg
    · have := pos_lo hi hl
      rw [he, sl_self] at this
      cases this
    · exact hg
  have h2 : i = posS r xs := by
    rcases Nat.lt_or_ge (posS r xs) i with hl | hg
    · have hp : posS r xs < xs.length := by omega
      have := inc_all h i (posS r xs) hi hl
      rw [he, pos_at hp] at this
      cases this
    · omega
  refine ⟨h2, ?_⟩
  subst h2
  rw [here_at hi, he]
  exact beq_self_eq_true _
end Go.Proofs.YtafdjjdmcnlddaaGreat

namespace Go.Proofs.YtafdjjdmcnlddaaGreat
set_option linter.unusedSimpArgs false
set_option linter.unusedVariables false
open Go.RowKit

/-- The shows. -/
def showB (t : ByteArray) : Bool := [[], [97, 119, 97, 121], [99, 104, 97, 116], [100, 110, 100], [120, 97]].contains t.toList
def resB (t : ByteArray) : Bool := decide (0 < t.size) && partB resC t
/-- A valid session. -/
def seB (x : SeL) : Bool := (x.o || (decide (x.p = 0) && decide (x.s.size = 0))) && resB x.r && (decide (-128 ≤ x.p) && decide (x.p ≤ 127)) && showB x.s
def AllR (xs : List SeL) (n : Nat) : Prop := ∀ i (h : i < xs.length), i < n → seB xs[i] = true
/-- Valid sessions. -/
def SeOk (xs : List SeL) : Prop := xs.length ≤ 5 ∧ IncR xs xs.length ∧ AllR xs xs.length
open Classical in
noncomputable def okB (xs : List SeL) : Bool := decide (SeOk xs)
theorem okB_true {xs : List SeL} (h : SeOk xs) : okB xs = true := by unfold okB; simpa using h
theorem okB_false {xs : List SeL} (h : ¬ SeOk xs) : okB xs = false := by unfold okB; simpa using h
theorem okB_iff {xs : List SeL} : okB xs = true ↔ SeOk xs := by unfold okB; simp
theorem allR_zero (xs : List SeL) : AllR xs 0 := fun i _ h => absurd h (Nat.not_lt_zero _)
theorem allR_succ {xs : List SeL} {k : Nat} (h : AllR xs k) (hk : k < xs.length) (h1 : seB xs[k] = true) : AllR xs (k + 1) := by
  intro i hi hlt
  by_cases e : i = k
  · subst e; exact h1
  · exact h i hi (by omega)
/-- An answer: sessions, code. -/
structure SoL where
  l : List SeL
  c : Int
def illS (c : Int) : SoL := ⟨[], c⟩
def newS (r : ByteArray) : SeL := ⟨r, false, 0, ⟨#[]⟩⟩
noncomputable def bindR (xs : List SeL) (r : ByteArray) : SoL :=
  if 400 < xs.length ∨ 20000 < r.size then illS 2 else if okB xs = false ∨ resB r = false then illS 1 else if hereB r xs = true then illS 7 else if xs.length = 5 then illS 9
  else ⟨xs.take (posS r xs) ++ newS r :: xs.drop (posS r xs), 0⟩
noncomputable def unbindR (xs : List SeL) (r : ByteArray) : SoL :=
  if 400 < xs.length ∨ 20000 < r.size then illS 2 else if okB xs = false then illS 1 else if hereB r xs = false then illS 6
  else ⟨xs.take (posS r xs) ++ xs.drop (posS r xs + 1), 0⟩
/-- The session of its resource is replaced, if the new one is valid. -/
noncomputable def withR (xs : List SeL) (y : SeL) : SoL :=
  if 400 < xs.length ∨ 20000 < y.r.size then illS 2 else if okB xs = false then illS 1 else if hereB y.r xs = false then illS 6 else if seB y = false then illS 1
  else ⟨xs.set (posS y.r xs) y, 0⟩
noncomputable def presR (xs : List SeL) (r : ByteArray) (p : Int) (s : ByteArray) : SoL := if 20000 < s.size then illS 2 else withR xs ⟨r, true, p, s⟩
end Go.Proofs.YtafdjjdmcnlddaaGreat

namespace Go.Proofs.YtafdjjdmcnlddaaGreat
set_option linter.unusedSimpArgs false
set_option linter.unusedVariables false
open Go.RowKit

theorem nan_str (s : ByteArray) (w : World) : Calls Tryz.prog 122 #[.string s] w fun e w' => e = .returned (.bool false) ∧ w = w' := by
  go_enter Tryz.func122, Tryz.ntmps122
  go_wp2
  go_ret
  exact ⟨ret_bool (by simp), rfl⟩
/-- What comparing two texts answers. -/
def cmpI (a b : ByteArray) : Int := if Op.bytesLess a.toList b.toList then -1 else if a.toList == b.toList then 0 else 1
theorem cmp_str (a b : ByteArray) (w : World) : Calls Tryz.prog 103 #[.string a, .string b] w fun e w' => e = .returned (.int .i64 (cmpI a b)) ∧ w = w' := by
  obtain ⟨b1, h1⟩ : ∃ b1, Op.bytesLess a.toList b.toList = b1 := ⟨_, rfl⟩
  obtain ⟨b2, h2⟩ : ∃ b2, (a.toList == b.toList) = b2 := ⟨_, rfl⟩
  unfold cmpI
  rw [h1, h2]
  have H1 := h1
  have H2 := h2
  cases b1 <;> cases b2 <;>
    (go_enter Tryz.func103, Tryz.ntmps103
     go_wp2_with (go_at_call 122; go_fit (nan_str _ _); rintro e w' ⟨rfl, rfl⟩)
     go_ret
     exact ⟨rfl, rfl⟩)
set_option maxHeartbeats 1000000 in
theorem cmp_res (x y : SeL) (w : World) : Calls Tryz.prog 69 #[seV x, seV y] w fun e w' => e = .returned (.int .i64 (cmpI x.r y.r)) ∧ Below w.heap.size w w' := by
  unfold seV
  obtain ⟨z, hz⟩ : ∃ z, cmpI x.r y.r = z := ⟨_, rfl⟩
  have i1 := fun W => cmp_str x.r y.r W
  rw [hz] at i1 ⊢
  go_enter Tryz.func69, Tryz.ntmps69
  go_wp2_with (go_at_call 103; go_fit (i1 _); rintro e w' ⟨rfl, rfl⟩)
  go_ret
  exact ⟨rfl, ((Below.refl _ _).alloc (Nat.le_refl _) _).alloc (by simp) _⟩
theorem cmp_neg {a b : ByteArray} : (cmpI a b < 0) ↔ Op.bytesLess a.toList b.toList = true := by
  unfold cmpI
  cases Op.bytesLess a.toList b.toList <;> cases a.toList == b.toList <;> simp
/-- Two neighbours of a row. -/
abbrev Two_se (g k : Nat) (x y : SeL) (wr W : World) : Prop := (((W.cell? ⟨g, k * 4, none⟩ = some (.string x.r) ∧ W.cell? ⟨g, k * 4 + 1, none⟩ = some (.bool x.o) ∧ W.cell? ⟨g, k * 4 + 2, none⟩ = some (.int .i64 x.p) ∧ W.cell? ⟨g, k * 4 + 3, none⟩ = some (.string x.s)) ∧
  (W.cell? ⟨g, (k + 1) * 4, none⟩ = some (.string y.r) ∧ W.cell? ⟨g, (k + 1) * 4 + 1, none⟩ = some (.bool y.o) ∧ W.cell? ⟨g, (k + 1) * 4 + 2, none⟩ = some (.int .i64 y.p) ∧ W.cell? ⟨g, (k + 1) * 4 + 3, none⟩ = some (.string y.s))) ∧ (Below wr.heap.size wr W ∧ g < wr.heap.size))
theorem two_se_on {g k : Nat} {x y : SeL} {wr W W2 : World} (h : Two_se g k x y wr W) (hb : Below W.heap.size W W2) : Two_se g k x y wr W2 := by
  obtain ⟨⟨⟨c0, c1, c2, c3⟩, d0, d1, d2, d3⟩, h1, h2⟩ := h
  have ha : g < W.heap.size := Nat.lt_of_lt_of_le h2 h1.size
  exact ⟨⟨⟨(hb.cell (p := ⟨g, k * 4, none⟩) ha).trans c0, (hb.cell (p := ⟨g, k * 4 + 1, none⟩) ha).trans c1, (hb.cell (p := ⟨g, k * 4 + 2, none⟩) ha).trans c2, (hb.cell (p := ⟨g, k * 4 + 3, none⟩) ha).trans c3⟩,
    (hb.cell (p := ⟨g, (k + 1) * 4, none⟩) ha).trans d0, (hb.cell (p := ⟨g, (k + 1) * 4 + 1, none⟩) ha).trans d1, (hb.cell (p := ⟨g, (k + 1) * 4 + 2, none⟩) ha).trans d2, (hb.cell (p := ⟨g, (k + 1) * 4 + 3, none⟩) ha).trans d3⟩, h1.trans (hb.mono h1.size), h2⟩
theorem two_se_drew {g k : Nat} {x y : SeL} {wr W : World} (h : Two_se g k x y wr W) : Two_se g k x y wr W.drew := two_se_on h (Below.refl _ _).drew
set_option maxRecDepth 100000 in
set_option maxHeartbeats 2000000 in
theorem impl_inc (xs : List SeL) (p : Option Addr) (c : Nat) (w : World) (hn : xs.length ≤ 1048576) (hR : RowC seC 4 w p xs) :
    Calls Tryz.prog 68 #[.slice p xs.length c, .func (.func 69) #[] #[]] w fun e w' => e = .returned (.bool (incB xs)) ∧ Below w.heap.size w w' := by
  obtain ⟨n, hxn⟩ : ∃ n, xs.length = n := ⟨_, rfl⟩
  have HP := Lib.hid (fun W (h : Below w.heap.size w W) => hR.on h)
  have HN := Lib.hid hxn
  obtain ⟨Z, hZ⟩ : ∃ Z, incB xs = Z := ⟨_, rfl⟩
  have HZ := Lib.hid hZ
  rw [hxn] at hn ⊢
  rw [hZ]
  clear hR hxn hZ
  go_enter Tryz.func68, Tryz.ntmps68
  go_wp2
  go_loopw [5] (fun iq wr => ∃ k : Nat, (k + 1 ≤ n ∨ k = 0) ∧ iq = .int .i64 ((k : Int) + 1) ∧ IncR xs (k + 1) ∧ Below w.heap.size w wr) (fun i _ => n + 1 - (intOf i).toNat)
  case atStart => exact ⟨0, .inr rfl, rfl, incR_zero xs, Below.refl _ _⟩
  case round =>
    obtain ⟨k, hk, rfl, hI, hb⟩ := hrel
    have HI := Lib.hid hI
    have HB := Lib.hid hb
    clear hI
    have hk2 : (k : Int) ≤ 1048576 := by omega
    by_cases hlt : k + 1 < n
    · have hlt1 : k < xs.length := by rw [HN.out]; omega
      have hlt2 : k + 1 < xs.length := by rw [HN.out]; exact hlt
      obtain ⟨g, rfl, hg, a0, a1, a2, a3⟩ := row_se4 (HP.out _ hb) hlt1
      obtain ⟨g', he, hg', b0, b1, b2, b3⟩ := row_se4 (HP.out _ hb) hlt2
      injection he with he
      injection he with he
      subst he
      obtain ⟨x, hx⟩ : ∃ x, xs[k] = x := ⟨_, rfl⟩
      obtain ⟨y, hy⟩ : ∃ y, xs[k + 1] = y := ⟨_, rfl⟩
      have HX := Lib.hid hx
      have HY := Lib.hid hy
      rw [hx] at a0 a1 a2 a3
      rw [hy] at b0 b1 b2 b3
      have HS : Hid (Two_se g k x y wr wr) := Lib.hid ⟨⟨⟨a0, a1, a2, a3⟩, b0, b1, b2, b3⟩, Below.refl _ _, hg⟩
      have i1 := fun W => cmp_res x y W
      unfold seV at i1
      obtain ⟨z, hz⟩ : ∃ z, cmpI x.r y.r = z := ⟨_, rfl⟩
      have HC := Lib.hid hz
      rw [hz] at i1
      clear hb a0 a1 a2 a3 b0 b1 b2 b3 hx hy hg hg' hz
      have hw1 : IntKind.i64.wrap ((k : Int) + 1 - 1) = (k : Int) := by rw [IntWalk.i64_in _ (by omega)]; omega
      have hw2 : IntKind.i64.wrap (k : Int) = (k : Int) := IntWalk.i64_in _ (by omega)
      have q1 : (0 : Int) ≤ (k : Int) := by omega
      have q2 : (k : Int) < (n : Int) := by omega
      have q3 : (0 : Int) ≤ (k : Int) + 1 := by omega
      have q4 : (k : Int) + 1 < (n : Int) := by omega
      go_wp2
      go_region_held3 (fun W => (((W.cell? ⟨g, k * 4, none⟩ = some (.string x.r) ∧ W.cell? ⟨g, k * 4 + 1, none⟩ = some (.bool x.o) ∧ W.cell? ⟨g, k * 4 + 2, none⟩ = some (.int .i64 x.p) ∧ W.cell? ⟨g, k * 4 + 3, none⟩ = some (.string x.s)) ∧
        (W.cell? ⟨g, (k + 1) * 4, none⟩ = some (.string y.r) ∧ W.cell? ⟨g, (k + 1) * 4 + 1, none⟩ = some (.bool y.o) ∧ W.cell? ⟨g, (k + 1) * 4 + 2, none⟩ = some (.int .i64 y.p) ∧ W.cell? ⟨g, (k + 1) * 4 + 3, none⟩ = some (.string y.s))) ∧ (Below wr.heap.size wr W ∧ g < wr.heap.size)))
        (with_reducible first | assumption | exact two_se_drew HS.out | exact two_se_on (by assumption) hbN)
        (first | (go_at_call 69; go_fit (i1 _); rintro e wn ⟨rfl, hbN⟩; have HF := Lib.hid (two_se_on (g := g) (k := k) (wr := wr) (by assumption) hbN)))
      have HB2 := Lib.hid (HB.out.trans (HF.out.2.1.mono HB.out.size))
      by_cases hneg : z < 0
      · have hn0 : ¬ (0 : Int) ≤ z := by omega
        have hl := cmp_neg.1 (show cmpI x.r y.r < 0 by rw [HC.out]; exact hneg)
        have HL := Lib.hid hl
        clear hl
        go_wp2
        go_roundw
        case rel => exact ⟨k + 1, .inl (by omega), by go_num, incR_succ HI.out hlt2 (fun _ h' => by
          simp only [Nat.add_sub_cancel]
          rw [HX.out, HY.out]
          exact HL.out), HB2.out⟩
        case measure => simp [intOf]; omega
      · have hn0 : (0 : Int) ≤ z := by omega
        have HN0 := Lib.hid hneg
        clear hneg
        have HL : Hid (Z = false) := Lib.hid (by
          rw [← HZ.out]
          refine incB_false (fun h => HN0.out ?_)
          rw [← HC.out]
          have := h (k + 1) hlt2 (by omega) hlt2 hlt1
          simp only [Nat.add_sub_cancel] at this
          rw [HX.out, HY.out] at this
          exact cmp_neg.2 this)
        go_wp2
        go_ret
        exact ⟨ret_bool HL.out.symm, HB2.out⟩
    · have HL : Hid (Z = true) := Lib.hid (by
        rw [← HZ.out]
        refine incB_true (fun i hi h0 h1 h' => HI.out i hi h0 ?_ h')
        rw [HN.out] at hi
        omega)
      clear hb
      go_wp2
      go_ret
      exact ⟨ret_bool HL.out.symm, HB.out⟩
end Go.Proofs.YtafdjjdmcnlddaaGreat

namespace Go.Proofs.YtafdjjdmcnlddaaGreat
set_option linter.unusedSimpArgs false
set_option linter.unusedVariables false
open Go.RowKit

theorem ba_ext {s : ByteArray} {l : List UInt8} (h : s.toList = l) : s = ⟨l.toArray⟩ := by
  rw [ByteArray.toList_eq] at h
  obtain ⟨⟨d⟩⟩ := s
  have h' : d = l := h
  rw [h']
theorem empty_size {s : ByteArray} : (s.toList = [] ↔ s.size = 0) := by
  constructor
  · intro h
    rw [ba_ext h]
    rfl
  · intro h
    have : s = ByteArray.empty := size_zero h
    rw [this, ByteArray.toList_eq]
    rfl
theorem isEmpty_size (s : ByteArray) : s.toList.isEmpty = decide (s.size = 0) := by
  by_cases h : s.size = 0
  · rw [empty_size.2 h, decide_eq_true h]; rfl
  · rw [decide_eq_false h]
    cases e : s.toList with
    | nil => exact absurd (empty_size.1 e) h
    | cons a l => rfl
set_option maxHeartbeats 1000000 in
theorem impl_res9 (t : ByteArray) (w : World) (ht : t.size ≤ maxLen) : Calls Tryz.prog 104 #[.string t] w (SaysB (resB t) w) := by
  have i1 := fun w => impl_part_res t w ht
  obtain ⟨b, hb⟩ : ∃ b, partB resC t = b := ⟨_, rfl⟩
  rw [hb] at i1
  unfold resB
  rw [hb]
  by_cases h0 : t.size = 0
  · rw [decide_eq_false (show ¬ 0 < t.size by omega)]
    obtain rfl := size_zero h0
    go_enter Tryz.func104, Tryz.ntmps104
    go_wp2
    go_ret
    exact ⟨ret_bool (by simp), rfl⟩
  · rw [decide_eq_true (show 0 < t.size by omega)]
    have h1 : t.toList ≠ [] := fun e => h0 (empty_size.1 e)
    have h2 : t.toList.isEmpty = false := by rw [isEmpty_size, decide_eq_false h0]
    go_enter Tryz.func104, Tryz.ntmps104
    go_wp2_with (go_at_call 116; go_fit (i1 _); rintro e w' ⟨rfl, rfl⟩)
    go_ret
    exact ⟨ret_bool (by simp), rfl⟩
set_option maxHeartbeats 1000000 in
theorem spec_res9 (t : ByteArray) (w : World) (ht : t.size ≤ maxLen) : Calls Tryz.prog 76 #[.string t] w (SaysB (resB t) w) := by
  have i1 := fun w => spec_resource t w ht
  obtain ⟨b, hb⟩ : ∃ b, partB resC t = b := ⟨_, rfl⟩
  rw [hb] at i1
  unfold resB
  rw [hb]
  by_cases h0 : t.size = 0
  · rw [decide_eq_false (show ¬ 0 < t.size by omega)]
    obtain rfl := size_zero h0
    go_enter Tryz.func76, Tryz.ntmps76
    go_wp2
    go_ret
    exact ⟨ret_bool (by simp), rfl⟩
  · rw [decide_eq_true (show 0 < t.size by omega)]
    have h1 : t.toList ≠ [] := fun e => h0 (empty_size.1 e)
    have h2 : t.toList.isEmpty = false := by rw [isEmpty_size, decide_eq_false h0]
    go_enter Tryz.func76, Tryz.ntmps76
    go_wp2_with (go_at_call 109; go_fit (i1 _); rintro e w' ⟨rfl, rfl⟩)
    go_ret
    exact ⟨ret_bool (by simp), rfl⟩
theorem show_cases (t : ByteArray) : t = ⟨#[]⟩ ∨ t = ⟨#[97, 119, 97, 121]⟩ ∨ t = ⟨#[99, 104, 97, 116]⟩ ∨ t = ⟨#[100, 110, 100]⟩ ∨ t = ⟨#[120, 97]⟩ ∨
    (t.toList ≠ [] ∧ (t.toList == [97, 119, 97, 121]) = false ∧ (t.toList == [99, 104, 97, 116]) = false ∧ (t.toList == [100, 110, 100]) = false ∧ (t.toList == [120, 97]) = false) := by
  by_cases h0 : t.toList = []
  · exact .inl (ba_ext h0)
  by_cases h1 : t.toList = [97, 119, 97, 121]
  · exact .inr (.inl (ba_ext h1))
  by_cases h2 : t.toList = [99, 104, 97, 116]
  · exact .inr (.inr (.inl (ba_ext h2)))
  by_cases h3 : t.toList = [100, 110, 100]
  · exact .inr (.inr (.inr (.inl (ba_ext h3))))
  by_cases h4 : t.toList = [120, 97]
  · exact .inr (.inr (.inr (.inr (.inl (ba_ext h4)))))
  exact .inr (.inr (.inr (.inr (.inr ⟨h0, beq_eq_false_iff_ne.2 h1, beq_eq_false_iff_ne.2 h2, beq_eq_false_iff_ne.2 h3, beq_eq_false_iff_ne.2 h4⟩))))
theorem show_no {t : ByteArray} (h0 : t.toList ≠ []) (h1 : (t.toList == [97, 119, 97, 121]) = false) (h2 : (t.toList == [99, 104, 97, 116]) = false) (h3 : (t.toList == [100, 110, 100]) = false) (h4 : (t.toList == [120, 97]) = false) : showB t = false := by
  unfold showB
  rw [beq_eq_false_iff_ne] at h1 h2 h3 h4
  simp [h0, h1, h2, h3, h4]
set_option maxHeartbeats 2000000 in
theorem impl_show9 (t : ByteArray) (w : World) : Calls Tryz.prog 105 #[.string t] w (SaysB (showB t) w) := by
  rcases show_cases t with rfl | rfl | rfl | rfl | rfl | ⟨h0, h1, h2, h3, h4⟩
  iterate 5
    · go_enter Tryz.func105, Tryz.ntmps105
      go_wp2
      go_ret
      exact ⟨ret_bool (by unfold showB; rw [ByteArray.toList_eq]; decide), rfl⟩
  · have h5 : t.toList.isEmpty = false := by rw [isEmpty_size, decide_eq_false (fun e => h0 (empty_size.2 e))]
    rw [show_no h0 h1 h2 h3 h4]
    go_enter Tryz.func105, Tryz.ntmps105
    go_wp2
    go_ret
    exact ⟨rfl, rfl⟩
theorem show_any (t : ByteArray) : ([⟨#[]⟩, ⟨#[97, 119, 97, 121]⟩, ⟨#[99, 104, 97, 116]⟩, ⟨#[100, 110, 100]⟩, ⟨#[120, 97]⟩].any fun x : ByteArray => x.toList == t.toList) = showB t := by
  rcases show_cases t with rfl | rfl | rfl | rfl | rfl | ⟨h0, h1, h2, h3, h4⟩
  iterate 5 · (unfold showB; simp only [ByteArray.toList_eq]; decide)
  rw [show_no h0 h1 h2 h3 h4, List.any_eq_false]
  intro x hx
  rw [beq_eq_false_iff_ne] at h1 h2 h3 h4
  simp only [List.mem_cons, List.not_mem_nil, or_false] at hx
  rw [beq_iff_eq]
  intro e
  rcases hx with rfl | rfl | rfl | rfl | rfl <;> rw [ByteArray.toList_eq] at e
  · exact h0 e.symm
  · exact h1 e.symm
  · exact h2 e.symm
  · exact h3 e.symm
  · exact h4 e.symm
set_option maxRecDepth 100000 in
set_option maxHeartbeats 1000000 in
theorem spec_in9 (b c : Nat) (ks : List ByteArray) (k : ByteArray) (w : World) (hlen : ks.length ≤ 1000) (hc : ∀ j (h : j < ks.length), w.cell? ⟨b, j, none⟩ = some (.string ks[j])) :
    Calls Tryz.prog 79 #[.slice (some ⟨b, 0, none⟩) ks.length c, .string k] w (SaysB (ks.any fun x => x.toList == k.toList) w) := by
  have HC := Lib.hid hc
  clear hc
  go_enter Tryz.func79, Tryz.ntmps79
  go_wp2
  go_loop [5] (fun i => ∃ j : Nat, j ≤ ks.length ∧ i = .int .i64 j ∧ ∀ m (h : m < ks.length), m < j → (ks[m].toList == k.toList) = false) (fun i => ks.length - (intOf i).toNat)
  case atStart => exact ⟨0, Nat.zero_le _, rfl, fun _ _ h => absurd h (Nat.not_lt_zero _)⟩
  case round =>
    obtain ⟨j, hj, rfl, hno⟩ := hrel
    have HN := Lib.hid hno
    clear hno
    by_cases hlt : j < ks.length
    · have hcell := HC.out j hlt
      obtain ⟨x, hx⟩ : ∃ x, x = ks[j] := ⟨_, rfl⟩
      rw [← hx] at hcell
      obtain ⟨b1, h1⟩ : ∃ b, (x.toList == k.toList) = b := ⟨_, rfl⟩
      have HX := Lib.hid hx
      clear hx
      cases b1
      · go_wp2
        refine ⟨⟨j + 1, hlt, rfl, fun m hm h => ?_⟩, by simp [intOf]; omega⟩
        by_cases e : m < j
        · exact HN.out m hm e
        · obtain rfl : m = j := by omega
          rw [← HX.out]
          exact h1
      · have HA : Hid ((ks.any fun x => x.toList == k.toList) = true) := Lib.hid (List.any_eq_true.2 ⟨x, by rw [HX.out]; exact List.getElem_mem hlt, h1⟩)
        go_wp2
        go_ret
        exact ⟨ret_bool HA.out.symm, rfl⟩
    · have HA : Hid ((ks.any fun x => x.toList == k.toList) = false) := Lib.hid (by
        rw [List.any_eq_false]
        intro x hx
        obtain ⟨m, hm, rfl⟩ := List.mem_iff_getElem.1 hx
        rw [HN.out m hm (by omega)]
        decide)
      go_wp2
      go_ret
      exact ⟨ret_bool HA.out.symm, rfl⟩
set_option maxRecDepth 100000 in
set_option maxHeartbeats 1000000 in
theorem spec_show9 (t : ByteArray) (w : World) : Calls Tryz.prog 78 #[.string t] w fun e w' => e = .returned (.bool (showB t)) ∧ Below w.heap.size w w' := by
  have i1 := fun W hc => spec_in9 w.heap.size 5 [⟨#[]⟩, ⟨#[97, 119, 97, 121]⟩, ⟨#[99, 104, 97, 116]⟩, ⟨#[100, 110, 100]⟩, ⟨#[120, 97]⟩] t W (by decide) hc
  rw [show_any] at i1
  have hA := Arr.fresh w 9 [.string ⟨#[]⟩, .string ⟨#[97, 119, 97, 121]⟩, .string ⟨#[99, 104, 97, 116]⟩, .string ⟨#[100, 110, 100]⟩, .string ⟨#[120, 97]⟩]
  have HC : Hid (∀ j (h : j < [(⟨#[]⟩ : ByteArray), ⟨#[97, 119, 97, 121]⟩, ⟨#[99, 104, 97, 116]⟩, ⟨#[100, 110, 100]⟩, ⟨#[120, 97]⟩].length), (w.alloc (.cells #[.string ⟨#[]⟩, .string ⟨#[97, 119, 97, 121]⟩, .string ⟨#[99, 104, 97, 116]⟩, .string ⟨#[100, 110, 100]⟩, .string ⟨#[120, 97]⟩] 9)).cell? ⟨w.heap.size, j, none⟩ = some (.string [(⟨#[]⟩ : ByteArray), ⟨#[97, 119, 97, 121]⟩, ⟨#[99, 104, 97, 116]⟩, ⟨#[100, 110, 100]⟩, ⟨#[120, 97]⟩][j])) := Lib.hid (by
    intro j hj
    match j, hj with
    | 0, _ => exact hA.cell 0
    | 1, _ => exact hA.cell 1
    | 2, _ => exact hA.cell 2
    | 3, _ => exact hA.cell 3
    | 4, _ => exact hA.cell 4)
  clear hA
  go_enter Tryz.func78, Tryz.ntmps78
  go_wp2_with (go_at_call 79; go_fit (i1 _ HC.out); rintro e w' ⟨rfl, rfl⟩)
  go_ret
  exact ⟨rfl, (Below.refl _ _).alloc (Nat.le_refl _) _⟩
theorem spec_is9 (z lo hi : Int) (w : World) : Calls Tryz.prog 77 #[.int .i64 z, .int .i64 lo, .int .i64 hi] w (SaysB (decide (lo ≤ z) && decide (z ≤ hi)) w) := by
  have hd : z < lo ∨ lo ≤ z ∧ z ≤ hi ∨ lo ≤ z ∧ hi < z := by omega
  rcases hd with h | ⟨h, h'⟩ | ⟨h, h'⟩
  · rw [show decide (lo ≤ z) = false by simp; omega]
    go_enter Tryz.func77, Tryz.ntmps77
    go_wp2
    go_ret
    exact ⟨ret_bool (by first | (simp; done) | (simp; omega)), rfl⟩
  · rw [show decide (lo ≤ z) = true by simpa using h, show decide (z ≤ hi) = true by simpa using h']
    go_enter Tryz.func77, Tryz.ntmps77
    go_wp2
    go_ret
    exact ⟨ret_bool (by first | (simp; done) | (simp; omega)), rfl⟩
  · rw [show decide (z ≤ hi) = false by simp; omega, Bool.and_false]
    go_enter Tryz.func77, Tryz.ntmps77
    go_wp2
    go_ret
    exact ⟨ret_bool (by first | (simp; done) | (simp; omega)), rfl⟩
end Go.Proofs.YtafdjjdmcnlddaaGreat

namespace Go.Proofs.YtafdjjdmcnlddaaGreat
set_option linter.unusedSimpArgs false
set_option linter.unusedVariables false
open Go.RowKit

theorem nonempty_facts {s : ByteArray} (h : ¬ s.size = 0) : s.toList ≠ [] ∧ s.toList.isEmpty = false := ⟨fun e => h (empty_size.1 e), by rw [isEmpty_size, decide_eq_false h]⟩
set_option maxHeartbeats 4000000 in
theorem impl_se (x : SeL) (w : World) (hr : x.r.size ≤ maxLen) : Calls Tryz.prog 70 #[seV x] w fun e w' => e = .returned (.bool (seB x)) ∧ Below w.heap.size w w' := by
  obtain ⟨r, o, p, s⟩ := x
  have i1 := fun W => impl_res9 r W hr
  have i2 := fun W => impl_show9 s W
  unfold seB seV
  dsimp only at hr ⊢
  obtain ⟨b1, h1⟩ : ∃ b, resB r = b := ⟨_, rfl⟩
  obtain ⟨b2, h2⟩ : ∃ b, showB s = b := ⟨_, rfl⟩
  rw [h1] at i1 ⊢
  rw [h2] at i2 ⊢
  have HB2 := Lib.hid h2
  clear h1 h2 hr
  cases o
  · by_cases hp : p = 0
    · subst hp
      by_cases hs : s.size = 0
      · obtain rfl := size_zero hs
        have e : showB ByteArray.empty = true := by unfold showB; rw [ByteArray.toList_eq]; decide
        rw [HB2.out] at e
        subst e
        clear hs
        cases b1 <;>
          (go_enter Tryz.func70, Tryz.ntmps70
           go_wp2_with (first
             | (go_at_call 104; go_fit (i1 _); rintro e w' ⟨rfl, rfl⟩)
             | (go_at_call 105; go_fit (i2 _); rintro e w' ⟨rfl, rfl⟩))
           go_ret
           exact ⟨ret_bool (by simp; try rfl), (Below.refl _ _).alloc (Nat.le_refl _) _⟩)
      · obtain ⟨q1, q2⟩ := nonempty_facts hs
        rw [decide_eq_false hs]
        go_enter Tryz.func70, Tryz.ntmps70
        go_wp2
        go_ret
        exact ⟨ret_bool (by simp), (Below.refl _ _).alloc (Nat.le_refl _) _⟩
    · have q1 : (p != 0) = true := by simpa using hp
      rw [decide_eq_false hp]
      go_enter Tryz.func70, Tryz.ntmps70
      go_wp2
      go_ret
      exact ⟨ret_bool (by simp), (Below.refl _ _).alloc (Nat.le_refl _) _⟩
  · rcases (by omega : p < -128 ∨ (-128 ≤ p ∧ p ≤ 127) ∨ 127 < p) with hp | ⟨hp, hq⟩ | hp
    · rw [decide_eq_false (show ¬ -128 ≤ p by omega)]
      cases b1 <;>
        (go_enter Tryz.func70, Tryz.ntmps70
         go_wp2_with (first
           | (go_at_call 104; go_fit (i1 _); rintro e w' ⟨rfl, rfl⟩)
           | (go_at_call 105; go_fit (i2 _); rintro e w' ⟨rfl, rfl⟩))
         go_ret
         exact ⟨ret_bool (by simp), (Below.refl _ _).alloc (Nat.le_refl _) _⟩)
    · rw [decide_eq_true hp, decide_eq_true hq]
      cases b1 <;>
        (go_enter Tryz.func70, Tryz.ntmps70
         go_wp2_with (first
           | (go_at_call 104; go_fit (i1 _); rintro e w' ⟨rfl, rfl⟩)
           | (go_at_call 105; go_fit (i2 _); rintro e w' ⟨rfl, rfl⟩))
         go_ret
         exact ⟨ret_bool (by simp), (Below.refl _ _).alloc (Nat.le_refl _) _⟩)
    · rw [decide_eq_false (show ¬ p ≤ 127 by omega)]
      have hq : -128 ≤ p := by omega
      cases b1 <;>
        (go_enter Tryz.func70, Tryz.ntmps70
         go_wp2_with (first
           | (go_at_call 104; go_fit (i1 _); rintro e w' ⟨rfl, rfl⟩)
           | (go_at_call 105; go_fit (i2 _); rintro e w' ⟨rfl, rfl⟩))
         go_ret
         exact ⟨ret_bool (by simp), (Below.refl _ _).alloc (Nat.le_refl _) _⟩)
set_option maxRecDepth 100000 in
set_option maxHeartbeats 1000000 in
theorem impl_seright (xs : List SeL) (p : Option Addr) (c : Nat) (w : World) (hn : xs.length ≤ 1048576) (hw : ∀ x ∈ xs, x.r.size ≤ maxLen) (hR : RowC seC 4 w p xs) :
    Calls Tryz.prog 38 #[.slice p xs.length c] w fun e w' => e = .returned (.bool (okB xs)) ∧ Below w.heap.size w w' := by
  have i1 := impl_inc xs p c w hn hR
  obtain ⟨n, hxn⟩ : ∃ n, xs.length = n := ⟨_, rfl⟩
  have HP := Lib.hid (fun W (h : Below w.heap.size w W) => hR.on h)
  have HW := Lib.hid hw
  have HN := Lib.hid hxn
  obtain ⟨b1, h1⟩ : ∃ b, incB xs = b := ⟨_, rfl⟩
  rw [hxn] at hn i1 ⊢
  rw [h1] at i1
  have H1 := Lib.hid h1
  obtain ⟨Z, hZ⟩ : ∃ Z, okB xs = Z := ⟨_, rfl⟩
  have HZ := Lib.hid hZ
  rw [hZ]
  clear hR hw hxn h1 hZ
  by_cases hbig : 5 < n
  · have HL : Hid (Z = false) := Lib.hid (by rw [← HZ.out]; exact okB_false (fun h => by have := h.1; rw [HN.out] at this; omega))
    go_enter Tryz.func38, Tryz.ntmps38
    go_wp2
    go_ret
    exact ⟨ret_bool HL.out.symm, Below.refl _ _⟩
  cases b1
  · have HL : Hid (Z = false) := Lib.hid (by rw [← HZ.out]; exact okB_false (fun h => by have := incB_true h.2.1; rw [H1.out] at this; cases this))
    go_enter Tryz.func38, Tryz.ntmps38
    go_wp2_with (go_at_call 68; go_fit i1; rintro e w' ⟨rfl, hb⟩)
    go_ret
    exact ⟨ret_bool HL.out.symm, hb⟩
  go_enter Tryz.func38, Tryz.ntmps38
  go_wp2_with (go_at_call 68; go_fit i1; rintro e w1 ⟨rfl, hb⟩; have HB1 := Lib.hid hb; clear hb)
  go_loopw [14] (fun iq wr => ∃ k : Nat, k ≤ n ∧ iq = .int .i64 k ∧ AllR xs k ∧ Below w.heap.size w wr) (fun i _ => n - (intOf i).toNat)
  case atStart => exact ⟨0, Nat.zero_le _, rfl, allR_zero xs, HB1.out⟩
  case round =>
    obtain ⟨k, hk, rfl, hA, hb⟩ := hrel
    have HA := Lib.hid hA
    have HB := Lib.hid hb
    clear hA
    by_cases hlt : k < n
    · have hlt1 : k < xs.length := by rw [HN.out]; exact hlt
      obtain ⟨g, rfl, hg, a0, a1, a2, a3⟩ := row_se4 (HP.out _ hb) hlt1
      have hxw := HW.out _ (List.getElem_mem hlt1)
      obtain ⟨x, hx⟩ : ∃ x, xs[k] = x := ⟨_, rfl⟩
      rw [hx] at a0 a1 a2 a3 hxw
      have i3 := fun W => impl_se x W hxw
      obtain ⟨b3, h3⟩ : ∃ b, seB x = b := ⟨_, rfl⟩
      rw [h3] at i3
      unfold seV at i3
      have H3 : Hid (seB xs[k] = b3) := Lib.hid (by rw [hx]; exact h3)
      clear hb hx h3 hxw
      cases b3
      · have HL : Hid (Z = false) := Lib.hid (by rw [← HZ.out]; exact okB_false (fun h => by have := h.2.2 k hlt1 hlt1; rw [H3.out] at this; cases this))
        go_wp2_with (go_at_call 70; go_fit (i3 _); rintro e w2 ⟨rfl, hb2⟩)
        go_ret
        exact ⟨ret_bool HL.out.symm, HB.out.trans (hb2.mono HB.out.size)⟩
      · go_wp2_with (go_at_call 70; go_fit (i3 _); rintro e w2 ⟨rfl, hb2⟩)
        go_roundw
        case rel => exact ⟨k + 1, by omega, by go_num, allR_succ HA.out hlt1 H3.out, HB.out.trans (hb2.mono HB.out.size)⟩
        case measure => simp [intOf]; omega
    · have HL : Hid (Z = true) := Lib.hid (by
        rw [← HZ.out]
        refine okB_true ⟨by rw [HN.out]; omega, incB_iff.1 H1.out, fun i hi h0 => HA.out i hi ?_⟩
        rw [HN.out] at hi
        omega)
      clear hb
      go_wp2
      go_ret
      exact ⟨ret_bool HL.out.symm, HB.out⟩
end Go.Proofs.YtafdjjdmcnlddaaGreat

namespace Go.Proofs.YtafdjjdmcnlddaaGreat
set_option linter.unusedSimpArgs false
set_option linter.unusedVariables false
open Go.RowKit

theorem takeQ {P : Program} {ops : Array Oper} {Q : Exit → Act → World → Prop} {md : Region.Mode} {S : World → Prop} {i k : Nat} {oi : Oper} {v : Value} {fuel : Nat} {listed : Array Bool} {a : Act} {w : World} (hi : ops[i]? = some oi) (hd : oi.dst = some k)
    (hs : Region.noSelect ops = true) (hf : Region.free md ops listed i = true) (hr : (Region.ready md ops listed).contains i = true) (hQ : ∀ c a w, Q (.panic c) (a.put (some k) v) w → Q (.panic c) a w)
    (hw : Region.wanted oi (yielded ops a.tmps) = true) (hv : ∀ w, S w → (execOp a.eval oi).run P w = .ok (.value v) w) (hS : S w) (h : wpAnyH P md ops Q S fuel (listed.setIfInBounds i true) (a.put (some k) v) w) : wpAnyH P md ops Q S (fuel + 1) listed a w := by
  rw [← hd] at hQ h
  exact wpAnyH_take hi hs hf hr hQ (Or.inl ⟨hw, hv⟩) hS h
theorem skipQ {P : Program} {ops : Array Oper} {Q : Exit → Act → World → Prop} {md : Region.Mode} {S : World → Prop} {i k : Nat} {oi : Oper} {fuel : Nat} {listed : Array Bool} {a : Act} {w : World} (hi : ops[i]? = some oi) (hd : oi.dst = some k)
    (hs : Region.noSelect ops = true) (hf : Region.free md ops listed i = true) (hr : (Region.ready md ops listed).contains i = true) (hQ : ∀ c a w, Q (.panic c) (a.put (some k) undef) w → Q (.panic c) a w)
    (hw : Region.wanted oi (yielded ops a.tmps) = false) (hS : S w) (h : wpAnyH P md ops Q S fuel (listed.setIfInBounds i true) (a.put (some k) undef) w) : wpAnyH P md ops Q S (fuel + 1) listed a w := by
  rw [← hd] at hQ h
  exact wpAnyH_take hi hs hf hr hQ (Or.inr ⟨hw, rfl⟩) hS h
end Go.Proofs.YtafdjjdmcnlddaaGreat

namespace Go.Proofs.YtafdjjdmcnlddaaGreat
set_option linter.unusedSimpArgs false
set_option linter.unusedVariables false
open Go.RowKit

/-- Slots are written. -/
def putAll (a : Act) : List Nat → (Nat → Value) → Act
  | [], _ => a
  | s :: r, vs => putAll (a.put (some s) (vs s)) r vs
/-- A post that bears no panic. -/
def NormalOnly (R : Act → World → Prop) : Exit → Act → World → Prop
  | .normal, a, w => R a w
  | _, _, _ => False
/-- Whatever way a region goes: the slots that it writes hold some values, and R holds of them and of the world. -/
theorem region_join {P : Program} {c : Code} {Q : Exit → Act → World → Prop} {a : Act} {w : World} (slots : List Nat) (R : (Nat → Value) → World → Prop)
    (h1 : c.wp P (NormalOnly fun a' w' => R (fun k => a'.tmps.getD k undef) w' ∧ a' = putAll a slots (fun k => a'.tmps.getD k undef)) a w)
    (h2 : ∀ vs w', R vs w' → Q .normal (putAll a slots vs) w') : c.wp P Q a w := by
  refine Code.wp_mono (fun e a' w' h => ?_) h1
  cases e with
  | normal =>
    obtain ⟨hR, e⟩ := h
    rw [e]
    exact h2 _ _ hR
  | _ => exact (h : False).elim
end Go.Proofs.YtafdjjdmcnlddaaGreat

namespace Go.Proofs.YtafdjjdmcnlddaaGreat
set_option linter.unusedSimpArgs false
set_option linter.unusedVariables false
open Go.RowKit

theorem arrS_on {w w1 : World} {b t : Nat} {cs : List Value} (h : Arr w b t cs) (hb : Below w.heap.size w w1) : Arr w1 b t cs := (hb.block b (Array.getElem?_eq_some_iff.1 h).1).trans h
theorem arrS_cells {w : World} {b t : Nat} {a0 a1 a2 a3 : Value} (h : Arr w b t [a0, a1, a2, a3]) : w.cell? ⟨b, 0, none⟩ = some a0 ∧ w.cell? ⟨b, 1, none⟩ = some a1 ∧ w.cell? ⟨b, 2, none⟩ = some a2 ∧ w.cell? ⟨b, 3, none⟩ = some a3 := ⟨h.cell 0, h.cell 1, h.cell 2, h.cell 3⟩
theorem incR_0 (xs : List SeL) : IncR xs 0 := fun i _ h0 h1 => by omega
/-- Is the element ahead less? -/
def ltB (xs : List SeL) (k : Nat) (r : ByteArray) : Bool := match k with
  | 0 => true
  | m + 1 => match xs[m]? with
    | some y => Op.bytesLess y.r.toList r.toList
    | none => true
set_option maxRecDepth 100000 in
set_option maxHeartbeats 16000000 in
theorem spec_seright (xs : List SeL) (p0 : Option Addr) (c : Nat) (w : World) (hn : xs.length ≤ 1048576) (hw : ∀ x ∈ xs, x.r.size ≤ maxLen) (hR : RowC seC 4 w p0 xs) :
    Calls Tryz.prog 40 #[.slice p0 xs.length c] w fun e w' => e = .returned (.bool (okB xs)) ∧ Below w.heap.size w w' := by
  obtain ⟨n, hxn⟩ : ∃ n, xs.length = n := ⟨_, rfl⟩
  have HP := Lib.hid (fun W (h : Below w.heap.size w W) => hR.on h)
  have HW := Lib.hid hw
  have HN := Lib.hid hxn
  rw [hxn] at hn ⊢
  obtain ⟨Z, hZ⟩ : ∃ Z, okB xs = Z := ⟨_, rfl⟩
  have HZ := Lib.hid hZ
  rw [hZ]
  clear hR hw hxn hZ
  go_enter Tryz.func40, Tryz.ntmps40
  go_wp2
  go_loopw [3] (fun iq wr => ∃ k : Nat, k ≤ n ∧ iq = .int .i64 k ∧ IncR xs k ∧ AllR xs k ∧ Below w.heap.size w wr) (fun i _ => n - (intOf i).toNat)
  case atStart => exact ⟨0, Nat.zero_le _, rfl, incR_0 xs, allR_zero xs, Below.refl _ _⟩
  case round =>
    obtain ⟨k, hk, rfl, hI, hA, hb⟩ := hrel
    have HI := Lib.hid hI
    have HA := Lib.hid hA
    have HB := Lib.hid hb
    clear hA hI
    by_cases hlt : k < n
    · have hlt1 : k < xs.length := by rw [HN.out]; exact hlt
      have HRr := HP.out _ hb
      obtain ⟨g, rfl, hg, a0, a1, a2, a3⟩ := row_se4 HRr hlt1
      have hxw := HW.out _ (List.getElem_mem hlt1)
      obtain ⟨x, hx⟩ : ∃ x, xs[k] = x := ⟨_, rfl⟩
      rw [hx] at a0 a1 a2 a3 hxw
      obtain ⟨r, o, p, s⟩ := x
      dsimp only at a0 a1 a2 a3 hxw
      have jA := fun W => spec_res9 r W hxw
      have jD := fun W => spec_is9 p (-128) 127 W
      have jE := fun W => spec_show9 s W
      obtain ⟨b1, h1⟩ : ∃ b, resB r = b := ⟨_, rfl⟩
      obtain ⟨d, h2⟩ : ∃ b, (decide (-128 ≤ p) && decide (p ≤ 127)) = b := ⟨_, rfl⟩
      obtain ⟨e, h3⟩ : ∃ b, showB s = b := ⟨_, rfl⟩
      obtain ⟨bp, h4⟩ : ∃ b, (p != 0) = b := ⟨_, rfl⟩
      obtain ⟨es, h5⟩ : ∃ b, s.toList.isEmpty = b := ⟨_, rfl⟩
      rw [h1] at jA
      rw [h2] at jD
      rw [h3] at jE
      obtain ⟨lt0, h6⟩ : ∃ b, ltB xs k r = b := ⟨_, rfl⟩
      obtain ⟨bad, hbad⟩ : ∃ b, (!(b1 && lt0 && d && e && (o || (!bp && es)))) = b := ⟨_, rfl⟩
      have HBAD : Hid (bad = !(b1 && lt0 && d && e && (o || (!bp && es)))) := Lib.hid hbad.symm
      have HLT0 : Hid (k = 0 → lt0 = true) := Lib.hid (fun h => by subst h; rw [← h6]; rfl)
      have HLT1 : Hid (∀ m, k = m + 1 → ∀ h : m < xs.length, lt0 = Op.bytesLess xs[m].r.toList r.toList) := Lib.hid (fun m h hm => by
        subst h
        rw [← h6]
        show (match xs[m]? with | some y => Op.bytesLess y.r.toList r.toList | none => true) = _
        rw [List.getElem?_eq_getElem hm])
      have HSE : Hid (seB xs[k] = (b1 && d && e && (o || (!bp && es)))) := Lib.hid (by
        rw [hx]
        unfold seB
        dsimp only
        rw [h1, h2, h3, ← h4, ← h5, isEmpty_size]
        have hz : (!(p != 0)) = decide (p = 0) := by
          by_cases q : p = 0
          · subst q; rfl
          · have : (p != 0) = true := by simpa using q
            rw [this, decide_eq_false q]; rfl
        rw [hz]
        cases (o || decide (p = 0) && decide (s.size = 0)) <;> cases b1 <;> cases d <;> cases e <;> rfl)
      have HXR : Hid (xs[k].r = r) := Lib.hid (by rw [hx])
      have HLK : Hid (lt0 = ltB xs k r) := Lib.hid h6.symm
      have HS0 : Hid (∀ W, Below wr.heap.size wr W → RowC seC 4 W (some ⟨g, 0, none⟩) xs ∧ Below w.heap.size w W) := Lib.hid (fun W h => ⟨HRr.on h, hb.trans (h.mono hb.size)⟩)
      clear hb hx hxw h1 h2 h3 h6 hbad HRr
      go_wp2
      have hAx : Arr (wr.alloc (.cells #[.string r, .bool o, .int .i64 p, .string s] 40)) wr.heap.size 40 [.string r, .bool o, .int .i64 p, .string s] := Arr.fresh wr 40 [.string r, .bool o, .int .i64 p, .string s]
      have HX0 := Lib.hid (HS0.out (wr.alloc (.cells #[.string r, .bool o, .int .i64 p, .string s] 40)) ((Below.refl _ _).alloc (Nat.le_refl _) _))
      have HX1 := Lib.hid hAx
      clear hAx HS0 a0 a1 a2 a3
      refine region_join [15, 16, 17, 18, 19, 20, 21, 22, 23, 24, 25, 26, 27, 28, 29, 30, 31, 32, 33, 34, 35, 36, 37, 38, 39, 40, 41, 42, 43, 44, 45, 46, 47, 48, 49, 50, 51, 52, 53, 54, 55, 56, 57, 58, 59, 60] (fun vs W => vs 60 = .bool bad ∧ (Arr W wr.heap.size 40 [.string r, .bool o, .int .i64 p, .string s] ∧ RowC seC 4 W (some ⟨g, 0, none⟩) xs ∧ Below w.heap.size w W)) ?_ ?_
      · refine wp_region_held_drew (S := fun W => (Arr W wr.heap.size 40 [.string r, .bool o, .int .i64 p, .string s] ∧ RowC seC 4 W (some ⟨g, 0, none⟩) xs ∧ Below w.heap.size w W)) (by kernel_rfl) ⟨HX1.out, HX0.out.1, HX0.out.2.drew⟩ (fun hHeld => ?_)
        · generalize (wr.alloc (.cells #[.string r, .bool o, .int .i64 p, .string s] 40)).drew = Wd at hHeld ⊢
          generalize wr.heap.size = bx at hHeld ⊢
          clear HX0 HX1
          refine takeQ (i := 0) (k := 15) (v := .pointer (some ⟨bx, 0, none⟩)) rfl (by rfl) (by kernel_rfl) (by kernel_rfl) (by kernel_rfl) (fun _ _ _ h => h) (by rfl) ?_ hHeld ?_
          · intro w1 hSw; go_simp
          (try simp only [Act.put, List.setIfInBounds_toArray, List.set_cons_zero, List.set_cons_succ])
          refine takeQ (i := 1) (k := 16) (v := .string r) rfl (by rfl) (by kernel_rfl) (by kernel_rfl) (by kernel_rfl) (fun _ _ _ h => h) (by rfl) ?_ hHeld ?_
          · intro w1 hSw; (obtain ⟨m0, m1, m2, m3⟩ := arrS_cells hSw.1); go_simp
          (try simp only [Act.put, List.setIfInBounds_toArray, List.set_cons_zero, List.set_cons_succ])
          refine wpAnyH_ready (rs := [2]) (by kernel_rfl) (by simp) ?_
          refine AllReadyH.cons rfl (fun K hK => ?_) AllReadyH.nil
          rw [if_pos (by rfl)]
          go_simp
          go_fit (jA _)
          rintro e0 wz ⟨rfl, hwz⟩
          subst hwz
          refine hK.out _ _ hHeld (fun hHeld => ?_)
          clear hK K
          (try simp only [Act.put, List.setIfInBounds_toArray, List.set_cons_zero, List.set_cons_succ])
          cases b1
          · skip
            refine takeQ (i := 3) (k := 18) (v := .bool true) rfl (by rfl) (by kernel_rfl) (by kernel_rfl) (by kernel_rfl) (fun _ _ _ h => h) (by rfl) ?_ hHeld ?_
            · intro w1 hSw; go_simp
            (try simp only [Act.put, List.setIfInBounds_toArray, List.set_cons_zero, List.set_cons_succ])
            refine takeQ (i := 4) (k := 19) (v := .bool true) rfl (by rfl) (by kernel_rfl) (by kernel_rfl) (by kernel_rfl) (fun _ _ _ h => h) (by rfl) ?_ hHeld ?_
            · intro w1 hSw; go_simp
            (try simp only [Act.put, List.setIfInBounds_toArray, List.set_cons_zero, List.set_cons_succ])
            refine skipQ (i := 5) (k := 20) rfl (by rfl) (by kernel_rfl) (by kernel_rfl) (by kernel_rfl) (fun _ _ _ h => h) (by rfl) hHeld ?_
            (try simp only [Act.put, List.setIfInBounds_toArray, List.set_cons_zero, List.set_cons_succ])
            refine skipQ (i := 6) (k := 21) rfl (by rfl) (by kernel_rfl) (by kernel_rfl) (by kernel_rfl) (fun _ _ _ h => h) (by rfl) hHeld ?_
            (try simp only [Act.put, List.setIfInBounds_toArray, List.set_cons_zero, List.set_cons_succ])
            refine skipQ (i := 7) (k := 22) rfl (by rfl) (by kernel_rfl) (by kernel_rfl) (by kernel_rfl) (fun _ _ _ h => h) (by rfl) hHeld ?_
            (try simp only [Act.put, List.setIfInBounds_toArray, List.set_cons_zero, List.set_cons_succ])
            refine skipQ (i := 8) (k := 23) rfl (by rfl) (by kernel_rfl) (by kernel_rfl) (by kernel_rfl) (fun _ _ _ h => h) (by rfl) hHeld ?_
            (try simp only [Act.put, List.setIfInBounds_toArray, List.set_cons_zero, List.set_cons_succ])
            refine skipQ (i := 9) (k := 24) rfl (by rfl) (by kernel_rfl) (by kernel_rfl) (by kernel_rfl) (fun _ _ _ h => h) (by rfl) hHeld ?_
            (try simp only [Act.put, List.setIfInBounds_toArray, List.set_cons_zero, List.set_cons_succ])
            refine skipQ (i := 10) (k := 25) rfl (by rfl) (by kernel_rfl) (by kernel_rfl) (by kernel_rfl) (fun _ _ _ h => h) (by rfl) hHeld ?_
            (try simp only [Act.put, List.setIfInBounds_toArray, List.set_cons_zero, List.set_cons_succ])
            refine skipQ (i := 11) (k := 26) rfl (by rfl) (by kernel_rfl) (by kernel_rfl) (by kernel_rfl) (fun _ _ _ h => h) (by rfl) hHeld ?_
            (try simp only [Act.put, List.setIfInBounds_toArray, List.set_cons_zero, List.set_cons_succ])
            refine skipQ (i := 12) (k := 27) rfl (by rfl) (by kernel_rfl) (by kernel_rfl) (by kernel_rfl) (fun _ _ _ h => h) (by rfl) hHeld ?_
            (try simp only [Act.put, List.setIfInBounds_toArray, List.set_cons_zero, List.set_cons_succ])
            refine skipQ (i := 13) (k := 28) rfl (by rfl) (by kernel_rfl) (by kernel_rfl) (by kernel_rfl) (fun _ _ _ h => h) (by rfl) hHeld ?_
            (try simp only [Act.put, List.setIfInBounds_toArray, List.set_cons_zero, List.set_cons_succ])
            refine skipQ (i := 14) (k := 29) rfl (by rfl) (by kernel_rfl) (by kernel_rfl) (by kernel_rfl) (fun _ _ _ h => h) (by rfl) hHeld ?_
            (try simp only [Act.put, List.setIfInBounds_toArray, List.set_cons_zero, List.set_cons_succ])
            refine skipQ (i := 15) (k := 30) rfl (by rfl) (by kernel_rfl) (by kernel_rfl) (by kernel_rfl) (fun _ _ _ h => h) (by rfl) hHeld ?_
            (try simp only [Act.put, List.setIfInBounds_toArray, List.set_cons_zero, List.set_cons_succ])
            refine skipQ (i := 16) (k := 31) rfl (by rfl) (by kernel_rfl) (by kernel_rfl) (by kernel_rfl) (fun _ _ _ h => h) (by rfl) hHeld ?_
            (try simp only [Act.put, List.setIfInBounds_toArray, List.set_cons_zero, List.set_cons_succ])
            refine skipQ (i := 17) (k := 32) rfl (by rfl) (by kernel_rfl) (by kernel_rfl) (by kernel_rfl) (fun _ _ _ h => h) (by rfl) hHeld ?_
            (try simp only [Act.put, List.setIfInBounds_toArray, List.set_cons_zero, List.set_cons_succ])
            refine takeQ (i := 18) (k := 33) (v := .bool true) rfl (by rfl) (by kernel_rfl) (by kernel_rfl) (by kernel_rfl) (fun _ _ _ h => h) (by rfl) ?_ hHeld ?_
            · intro w1 hSw; go_simp
            (try simp only [Act.put, List.setIfInBounds_toArray, List.set_cons_zero, List.set_cons_succ])
            refine takeQ (i := 19) (k := 34) (v := .bool true) rfl (by rfl) (by kernel_rfl) (by kernel_rfl) (by kernel_rfl) (fun _ _ _ h => h) (by rfl) ?_ hHeld ?_
            · intro w1 hSw; go_simp
            (try simp only [Act.put, List.setIfInBounds_toArray, List.set_cons_zero, List.set_cons_succ])
            refine skipQ (i := 20) (k := 35) rfl (by rfl) (by kernel_rfl) (by kernel_rfl) (by kernel_rfl) (fun _ _ _ h => h) (by rfl) hHeld ?_
            (try simp only [Act.put, List.setIfInBounds_toArray, List.set_cons_zero, List.set_cons_succ])
            refine skipQ (i := 21) (k := 36) rfl (by rfl) (by kernel_rfl) (by kernel_rfl) (by kernel_rfl) (fun _ _ _ h => h) (by rfl) hHeld ?_
            (try simp only [Act.put, List.setIfInBounds_toArray, List.set_cons_zero, List.set_cons_succ])
            refine skipQ (i := 22) (k := 37) rfl (by rfl) (by kernel_rfl) (by kernel_rfl) (by kernel_rfl) (fun _ _ _ h => h) (by rfl) hHeld ?_
            (try simp only [Act.put, List.setIfInBounds_toArray, List.set_cons_zero, List.set_cons_succ])
            refine skipQ (i := 23) (k := 38) rfl (by rfl) (by kernel_rfl) (by kernel_rfl) (by kernel_rfl) (fun _ _ _ h => h) (by rfl) hHeld ?_
            (try simp only [Act.put, List.setIfInBounds_toArray, List.set_cons_zero, List.set_cons_succ])
            refine takeQ (i := 24) (k := 39) (v := .bool true) rfl (by rfl) (by kernel_rfl) (by kernel_rfl) (by kernel_rfl) (fun _ _ _ h => h) (by rfl) ?_ hHeld ?_
            · intro w1 hSw; go_simp
            (try simp only [Act.put, List.setIfInBounds_toArray, List.set_cons_zero, List.set_cons_succ])
            refine takeQ (i := 25) (k := 40) (v := .bool true) rfl (by rfl) (by kernel_rfl) (by kernel_rfl) (by kernel_rfl) (fun _ _ _ h => h) (by rfl) ?_ hHeld ?_
            · intro w1 hSw; go_simp
            (try simp only [Act.put, List.setIfInBounds_toArray, List.set_cons_zero, List.set_cons_succ])
            refine skipQ (i := 26) (k := 41) rfl (by rfl) (by kernel_rfl) (by kernel_rfl) (by kernel_rfl) (fun _ _ _ h => h) (by rfl) hHeld ?_
            (try simp only [Act.put, List.setIfInBounds_toArray, List.set_cons_zero, List.set_cons_succ])
            refine skipQ (i := 27) (k := 42) rfl (by rfl) (by kernel_rfl) (by kernel_rfl) (by kernel_rfl) (fun _ _ _ h => h) (by rfl) hHeld ?_
            (try simp only [Act.put, List.setIfInBounds_toArray, List.set_cons_zero, List.set_cons_succ])
            refine skipQ (i := 28) (k := 43) rfl (by rfl) (by kernel_rfl) (by kernel_rfl) (by kernel_rfl) (fun _ _ _ h => h) (by rfl) hHeld ?_
            (try simp only [Act.put, List.setIfInBounds_toArray, List.set_cons_zero, List.set_cons_succ])
            refine skipQ (i := 29) (k := 44) rfl (by rfl) (by kernel_rfl) (by kernel_rfl) (by kernel_rfl) (fun _ _ _ h => h) (by rfl) hHeld ?_
            (try simp only [Act.put, List.setIfInBounds_toArray, List.set_cons_zero, List.set_cons_succ])
            refine takeQ (i := 30) (k := 45) (v := .bool true) rfl (by rfl) (by kernel_rfl) (by kernel_rfl) (by kernel_rfl) (fun _ _ _ h => h) (by rfl) ?_ hHeld ?_
            · intro w1 hSw; go_simp
            (try simp only [Act.put, List.setIfInBounds_toArray, List.set_cons_zero, List.set_cons_succ])
            refine takeQ (i := 31) (k := 46) (v := .bool true) rfl (by rfl) (by kernel_rfl) (by kernel_rfl) (by kernel_rfl) (fun _ _ _ h => h) (by rfl) ?_ hHeld ?_
            · intro w1 hSw; go_simp
            (try simp only [Act.put, List.setIfInBounds_toArray, List.set_cons_zero, List.set_cons_succ])
            refine skipQ (i := 32) (k := 47) rfl (by rfl) (by kernel_rfl) (by kernel_rfl) (by kernel_rfl) (fun _ _ _ h => h) (by rfl) hHeld ?_
            (try simp only [Act.put, List.setIfInBounds_toArray, List.set_cons_zero, List.set_cons_succ])
            refine skipQ (i := 33) (k := 48) rfl (by rfl) (by kernel_rfl) (by kernel_rfl) (by kernel_rfl) (fun _ _ _ h => h) (by rfl) hHeld ?_
            (try simp only [Act.put, List.setIfInBounds_toArray, List.set_cons_zero, List.set_cons_succ])
            refine skipQ (i := 34) (k := 49) rfl (by rfl) (by kernel_rfl) (by kernel_rfl) (by kernel_rfl) (fun _ _ _ h => h) (by rfl) hHeld ?_
            (try simp only [Act.put, List.setIfInBounds_toArray, List.set_cons_zero, List.set_cons_succ])
            refine skipQ (i := 35) (k := 50) rfl (by rfl) (by kernel_rfl) (by kernel_rfl) (by kernel_rfl) (fun _ _ _ h => h) (by rfl) hHeld ?_
            (try simp only [Act.put, List.setIfInBounds_toArray, List.set_cons_zero, List.set_cons_succ])
            refine skipQ (i := 36) (k := 51) rfl (by rfl) (by kernel_rfl) (by kernel_rfl) (by kernel_rfl) (fun _ _ _ h => h) (by rfl) hHeld ?_
            (try simp only [Act.put, List.setIfInBounds_toArray, List.set_cons_zero, List.set_cons_succ])
            refine skipQ (i := 37) (k := 52) rfl (by rfl) (by kernel_rfl) (by kernel_rfl) (by kernel_rfl) (fun _ _ _ h => h) (by rfl) hHeld ?_
            (try simp only [Act.put, List.setIfInBounds_toArray, List.set_cons_zero, List.set_cons_succ])
            refine skipQ (i := 38) (k := 53) rfl (by rfl) (by kernel_rfl) (by kernel_rfl) (by kernel_rfl) (fun _ _ _ h => h) (by rfl) hHeld ?_
            (try simp only [Act.put, List.setIfInBounds_toArray, List.set_cons_zero, List.set_cons_succ])
            refine skipQ (i := 39) (k := 54) rfl (by rfl) (by kernel_rfl) (by kernel_rfl) (by kernel_rfl) (fun _ _ _ h => h) (by rfl) hHeld ?_
            (try simp only [Act.put, List.setIfInBounds_toArray, List.set_cons_zero, List.set_cons_succ])
            refine skipQ (i := 40) (k := 55) rfl (by rfl) (by kernel_rfl) (by kernel_rfl) (by kernel_rfl) (fun _ _ _ h => h) (by rfl) hHeld ?_
            (try simp only [Act.put, List.setIfInBounds_toArray, List.set_cons_zero, List.set_cons_succ])
            refine skipQ (i := 41) (k := 56) rfl (by rfl) (by kernel_rfl) (by kernel_rfl) (by kernel_rfl) (fun _ _ _ h => h) (by rfl) hHeld ?_
            (try simp only [Act.put, List.setIfInBounds_toArray, List.set_cons_zero, List.set_cons_succ])
            refine skipQ (i := 42) (k := 57) rfl (by rfl) (by kernel_rfl) (by kernel_rfl) (by kernel_rfl) (fun _ _ _ h => h) (by rfl) hHeld ?_
            (try simp only [Act.put, List.setIfInBounds_toArray, List.set_cons_zero, List.set_cons_succ])
            refine skipQ (i := 43) (k := 58) rfl (by rfl) (by kernel_rfl) (by kernel_rfl) (by kernel_rfl) (fun _ _ _ h => h) (by rfl) hHeld ?_
            (try simp only [Act.put, List.setIfInBounds_toArray, List.set_cons_zero, List.set_cons_succ])
            refine skipQ (i := 44) (k := 59) rfl (by rfl) (by kernel_rfl) (by kernel_rfl) (by kernel_rfl) (fun _ _ _ h => h) (by rfl) hHeld ?_
            (try simp only [Act.put, List.setIfInBounds_toArray, List.set_cons_zero, List.set_cons_succ])
            refine takeQ (i := 45) (k := 60) (v := .bool true) rfl (by rfl) (by kernel_rfl) (by kernel_rfl) (by kernel_rfl) (fun _ _ _ h => h) (by rfl) ?_ hHeld ?_
            · intro w1 hSw; go_simp
            (try simp only [Act.put, List.setIfInBounds_toArray, List.set_cons_zero, List.set_cons_succ])
            refine wpAnyH_done (by kernel_rfl) ?_ _
            exact ⟨⟨congrArg Value.bool (show true = bad by rw [HBAD.out]; simp), hHeld⟩, by simp only [putAll, Act.put, List.setIfInBounds_toArray, List.set_cons_zero, List.set_cons_succ]; rfl⟩
          · skip
            refine takeQ (i := 3) (k := 18) (v := .bool false) rfl (by rfl) (by kernel_rfl) (by kernel_rfl) (by kernel_rfl) (fun _ _ _ h => h) (by rfl) ?_ hHeld ?_
            · intro w1 hSw; go_simp
            (try simp only [Act.put, List.setIfInBounds_toArray, List.set_cons_zero, List.set_cons_succ])
            refine takeQ (i := 4) (k := 19) (v := .bool false) rfl (by rfl) (by kernel_rfl) (by kernel_rfl) (by kernel_rfl) (fun _ _ _ h => h) (by rfl) ?_ hHeld ?_
            · intro w1 hSw; go_simp
            (try simp only [Act.put, List.setIfInBounds_toArray, List.set_cons_zero, List.set_cons_succ])
            cases k with
            | zero =>
              replace HBAD : Hid (bad = !(true && true && d && e && (o || (!bp && es)))) := Lib.hid (by rw [HBAD.out, HLT0.out rfl])
              refine takeQ (i := 5) (k := 20) (v := .int .i64 0) rfl (by rfl) (by kernel_rfl) (by kernel_rfl) (by kernel_rfl) (fun _ _ _ h => h) (by rfl) ?_ hHeld ?_
              · intro w1 hSw; go_simp
              (try simp only [Act.put, List.setIfInBounds_toArray, List.set_cons_zero, List.set_cons_succ])
              refine takeQ (i := 6) (k := 21) (v := .bool false) rfl (by rfl) (by kernel_rfl) (by kernel_rfl) (by kernel_rfl) (fun _ _ _ h => h) (by rfl) ?_ hHeld ?_
              · intro w1 hSw; go_simp
              (try simp only [Act.put, List.setIfInBounds_toArray, List.set_cons_zero, List.set_cons_succ])
              refine takeQ (i := 7) (k := 22) (v := .bool false) rfl (by rfl) (by kernel_rfl) (by kernel_rfl) (by kernel_rfl) (fun _ _ _ h => h) (by rfl) ?_ hHeld ?_
              · intro w1 hSw; go_simp
              (try simp only [Act.put, List.setIfInBounds_toArray, List.set_cons_zero, List.set_cons_succ])
              refine skipQ (i := 8) (k := 23) rfl (by rfl) (by kernel_rfl) (by kernel_rfl) (by kernel_rfl) (fun _ _ _ h => h) (by rfl) hHeld ?_
              (try simp only [Act.put, List.setIfInBounds_toArray, List.set_cons_zero, List.set_cons_succ])
              refine skipQ (i := 9) (k := 24) rfl (by rfl) (by kernel_rfl) (by kernel_rfl) (by kernel_rfl) (fun _ _ _ h => h) (by rfl) hHeld ?_
              (try simp only [Act.put, List.setIfInBounds_toArray, List.set_cons_zero, List.set_cons_succ])
              refine skipQ (i := 10) (k := 25) rfl (by rfl) (by kernel_rfl) (by kernel_rfl) (by kernel_rfl) (fun _ _ _ h => h) (by rfl) hHeld ?_
              (try simp only [Act.put, List.setIfInBounds_toArray, List.set_cons_zero, List.set_cons_succ])
              refine skipQ (i := 11) (k := 26) rfl (by rfl) (by kernel_rfl) (by kernel_rfl) (by kernel_rfl) (fun _ _ _ h => h) (by rfl) hHeld ?_
              (try simp only [Act.put, List.setIfInBounds_toArray, List.set_cons_zero, List.set_cons_succ])
              refine skipQ (i := 12) (k := 27) rfl (by rfl) (by kernel_rfl) (by kernel_rfl) (by kernel_rfl) (fun _ _ _ h => h) (by rfl) hHeld ?_
              (try simp only [Act.put, List.setIfInBounds_toArray, List.set_cons_zero, List.set_cons_succ])
              refine skipQ (i := 13) (k := 28) rfl (by rfl) (by kernel_rfl) (by kernel_rfl) (by kernel_rfl) (fun _ _ _ h => h) (by rfl) hHeld ?_
              (try simp only [Act.put, List.setIfInBounds_toArray, List.set_cons_zero, List.set_cons_succ])
              refine skipQ (i := 14) (k := 29) rfl (by rfl) (by kernel_rfl) (by kernel_rfl) (by kernel_rfl) (fun _ _ _ h => h) (by rfl) hHeld ?_
              (try simp only [Act.put, List.setIfInBounds_toArray, List.set_cons_zero, List.set_cons_succ])
              refine skipQ (i := 15) (k := 30) rfl (by rfl) (by kernel_rfl) (by kernel_rfl) (by kernel_rfl) (fun _ _ _ h => h) (by rfl) hHeld ?_
              (try simp only [Act.put, List.setIfInBounds_toArray, List.set_cons_zero, List.set_cons_succ])
              refine skipQ (i := 16) (k := 31) rfl (by rfl) (by kernel_rfl) (by kernel_rfl) (by kernel_rfl) (fun _ _ _ h => h) (by rfl) hHeld ?_
              (try simp only [Act.put, List.setIfInBounds_toArray, List.set_cons_zero, List.set_cons_succ])
              refine takeQ (i := 17) (k := 32) (v := .bool false) rfl (by rfl) (by kernel_rfl) (by kernel_rfl) (by kernel_rfl) (fun _ _ _ h => h) (by rfl) ?_ hHeld ?_
              · intro w1 hSw; go_simp
              (try simp only [Act.put, List.setIfInBounds_toArray, List.set_cons_zero, List.set_cons_succ])
              refine takeQ (i := 18) (k := 33) (v := .bool false) rfl (by rfl) (by kernel_rfl) (by kernel_rfl) (by kernel_rfl) (fun _ _ _ h => h) (by rfl) ?_ hHeld ?_
              · intro w1 hSw; go_simp
              (try simp only [Act.put, List.setIfInBounds_toArray, List.set_cons_zero, List.set_cons_succ])
              refine takeQ (i := 19) (k := 34) (v := .bool false) rfl (by rfl) (by kernel_rfl) (by kernel_rfl) (by kernel_rfl) (fun _ _ _ h => h) (by rfl) ?_ hHeld ?_
              · intro w1 hSw; go_simp
              (try simp only [Act.put, List.setIfInBounds_toArray, List.set_cons_zero, List.set_cons_succ])
              refine takeQ (i := 20) (k := 35) (v := .pointer (some ⟨bx, 2, none⟩)) rfl (by rfl) (by kernel_rfl) (by kernel_rfl) (by kernel_rfl) (fun _ _ _ h => h) (by rfl) ?_ hHeld ?_
              · intro w1 hSw; go_simp
              (try simp only [Act.put, List.setIfInBounds_toArray, List.set_cons_zero, List.set_cons_succ])
              refine takeQ (i := 21) (k := 36) (v := .int .i64 p) rfl (by rfl) (by kernel_rfl) (by kernel_rfl) (by kernel_rfl) (fun _ _ _ h => h) (by rfl) ?_ hHeld ?_
              · intro w1 hSw; (obtain ⟨m0, m1, m2, m3⟩ := arrS_cells hSw.1); go_simp
              (try simp only [Act.put, List.setIfInBounds_toArray, List.set_cons_zero, List.set_cons_succ])
              refine wpAnyH_ready (rs := [22]) (by kernel_rfl) (by simp) ?_
              refine AllReadyH.cons rfl (fun K hK => ?_) AllReadyH.nil
              rw [if_pos (by rfl)]
              go_simp
              go_fit (jD _)
              rintro e0 wz ⟨rfl, hwz⟩
              subst hwz
              refine hK.out _ _ hHeld (fun hHeld => ?_)
              clear hK K
              (try simp only [Act.put, List.setIfInBounds_toArray, List.set_cons_zero, List.set_cons_succ])
              cases d
              · skip
                refine takeQ (i := 23) (k := 38) (v := .bool true) rfl (by rfl) (by kernel_rfl) (by kernel_rfl) (by kernel_rfl) (fun _ _ _ h => h) (by rfl) ?_ hHeld ?_
                · intro w1 hSw; go_simp
                (try simp only [Act.put, List.setIfInBounds_toArray, List.set_cons_zero, List.set_cons_succ])
                refine takeQ (i := 24) (k := 39) (v := .bool true) rfl (by rfl) (by kernel_rfl) (by kernel_rfl) (by kernel_rfl) (fun _ _ _ h => h) (by rfl) ?_ hHeld ?_
                · intro w1 hSw; go_simp
                (try simp only [Act.put, List.setIfInBounds_toArray, List.set_cons_zero, List.set_cons_succ])
                refine takeQ (i := 25) (k := 40) (v := .bool true) rfl (by rfl) (by kernel_rfl) (by kernel_rfl) (by kernel_rfl) (fun _ _ _ h => h) (by rfl) ?_ hHeld ?_
                · intro w1 hSw; go_simp
                (try simp only [Act.put, List.setIfInBounds_toArray, List.set_cons_zero, List.set_cons_succ])
                refine skipQ (i := 26) (k := 41) rfl (by rfl) (by kernel_rfl) (by kernel_rfl) (by kernel_rfl) (fun _ _ _ h => h) (by rfl) hHeld ?_
                (try simp only [Act.put, List.setIfInBounds_toArray, List.set_cons_zero, List.set_cons_succ])
                refine skipQ (i := 27) (k := 42) rfl (by rfl) (by kernel_rfl) (by kernel_rfl) (by kernel_rfl) (fun _ _ _ h => h) (by rfl) hHeld ?_
                (try simp only [Act.put, List.setIfInBounds_toArray, List.set_cons_zero, List.set_cons_succ])
                refine skipQ (i := 28) (k := 43) rfl (by rfl) (by kernel_rfl) (by kernel_rfl) (by kernel_rfl) (fun _ _ _ h => h) (by rfl) hHeld ?_
                (try simp only [Act.put, List.setIfInBounds_toArray, List.set_cons_zero, List.set_cons_succ])
                refine skipQ (i := 29) (k := 44) rfl (by rfl) (by kernel_rfl) (by kernel_rfl) (by kernel_rfl) (fun _ _ _ h => h) (by rfl) hHeld ?_
                (try simp only [Act.put, List.setIfInBounds_toArray, List.set_cons_zero, List.set_cons_succ])
                refine takeQ (i := 30) (k := 45) (v := .bool true) rfl (by rfl) (by kernel_rfl) (by kernel_rfl) (by kernel_rfl) (fun _ _ _ h => h) (by rfl) ?_ hHeld ?_
                · intro w1 hSw; go_simp
                (try simp only [Act.put, List.setIfInBounds_toArray, List.set_cons_zero, List.set_cons_succ])
                refine takeQ (i := 31) (k := 46) (v := .bool true) rfl (by rfl) (by kernel_rfl) (by kernel_rfl) (by kernel_rfl) (fun _ _ _ h => h) (by rfl) ?_ hHeld ?_
                · intro w1 hSw; go_simp
                (try simp only [Act.put, List.setIfInBounds_toArray, List.set_cons_zero, List.set_cons_succ])
                refine skipQ (i := 32) (k := 47) rfl (by rfl) (by kernel_rfl) (by kernel_rfl) (by kernel_rfl) (fun _ _ _ h => h) (by rfl) hHeld ?_
                (try simp only [Act.put, List.setIfInBounds_toArray, List.set_cons_zero, List.set_cons_succ])
                refine skipQ (i := 33) (k := 48) rfl (by rfl) (by kernel_rfl) (by kernel_rfl) (by kernel_rfl) (fun _ _ _ h => h) (by rfl) hHeld ?_
                (try simp only [Act.put, List.setIfInBounds_toArray, List.set_cons_zero, List.set_cons_succ])
                refine skipQ (i := 34) (k := 49) rfl (by rfl) (by kernel_rfl) (by kernel_rfl) (by kernel_rfl) (fun _ _ _ h => h) (by rfl) hHeld ?_
                (try simp only [Act.put, List.setIfInBounds_toArray, List.set_cons_zero, List.set_cons_succ])
                refine skipQ (i := 35) (k := 50) rfl (by rfl) (by kernel_rfl) (by kernel_rfl) (by kernel_rfl) (fun _ _ _ h => h) (by rfl) hHeld ?_
                (try simp only [Act.put, List.setIfInBounds_toArray, List.set_cons_zero, List.set_cons_succ])
                refine skipQ (i := 36) (k := 51) rfl (by rfl) (by kernel_rfl) (by kernel_rfl) (by kernel_rfl) (fun _ _ _ h => h) (by rfl) hHeld ?_
                (try simp only [Act.put, List.setIfInBounds_toArray, List.set_cons_zero, List.set_cons_succ])
                refine skipQ (i := 37) (k := 52) rfl (by rfl) (by kernel_rfl) (by kernel_rfl) (by kernel_rfl) (fun _ _ _ h => h) (by rfl) hHeld ?_
                (try simp only [Act.put, List.setIfInBounds_toArray, List.set_cons_zero, List.set_cons_succ])
                refine skipQ (i := 38) (k := 53) rfl (by rfl) (by kernel_rfl) (by kernel_rfl) (by kernel_rfl) (fun _ _ _ h => h) (by rfl) hHeld ?_
                (try simp only [Act.put, List.setIfInBounds_toArray, List.set_cons_zero, List.set_cons_succ])
                refine skipQ (i := 39) (k := 54) rfl (by rfl) (by kernel_rfl) (by kernel_rfl) (by kernel_rfl) (fun _ _ _ h => h) (by rfl) hHeld ?_
                (try simp only [Act.put, List.setIfInBounds_toArray, List.set_cons_zero, List.set_cons_succ])
                refine skipQ (i := 40) (k := 55) rfl (by rfl) (by kernel_rfl) (by kernel_rfl) (by kernel_rfl) (fun _ _ _ h => h) (by rfl) hHeld ?_
                (try simp only [Act.put, List.setIfInBounds_toArray, List.set_cons_zero, List.set_cons_succ])
                refine skipQ (i := 41) (k := 56) rfl (by rfl) (by kernel_rfl) (by kernel_rfl) (by kernel_rfl) (fun _ _ _ h => h) (by rfl) hHeld ?_
                (try simp only [Act.put, List.setIfInBounds_toArray, List.set_cons_zero, List.set_cons_succ])
                refine skipQ (i := 42) (k := 57) rfl (by rfl) (by kernel_rfl) (by kernel_rfl) (by kernel_rfl) (fun _ _ _ h => h) (by rfl) hHeld ?_
                (try simp only [Act.put, List.setIfInBounds_toArray, List.set_cons_zero, List.set_cons_succ])
                refine skipQ (i := 43) (k := 58) rfl (by rfl) (by kernel_rfl) (by kernel_rfl) (by kernel_rfl) (fun _ _ _ h => h) (by rfl) hHeld ?_
                (try simp only [Act.put, List.setIfInBounds_toArray, List.set_cons_zero, List.set_cons_succ])
                refine skipQ (i := 44) (k := 59) rfl (by rfl) (by kernel_rfl) (by kernel_rfl) (by kernel_rfl) (fun _ _ _ h => h) (by rfl) hHeld ?_
                (try simp only [Act.put, List.setIfInBounds_toArray, List.set_cons_zero, List.set_cons_succ])
                refine takeQ (i := 45) (k := 60) (v := .bool true) rfl (by rfl) (by kernel_rfl) (by kernel_rfl) (by kernel_rfl) (fun _ _ _ h => h) (by rfl) ?_ hHeld ?_
                · intro w1 hSw; go_simp
                (try simp only [Act.put, List.setIfInBounds_toArray, List.set_cons_zero, List.set_cons_succ])
                refine wpAnyH_done (by kernel_rfl) ?_ _
                exact ⟨⟨congrArg Value.bool (show true = bad by rw [HBAD.out]; simp), hHeld⟩, by simp only [putAll, Act.put, List.setIfInBounds_toArray, List.set_cons_zero, List.set_cons_succ]; rfl⟩
              · skip
                refine takeQ (i := 23) (k := 38) (v := .bool false) rfl (by rfl) (by kernel_rfl) (by kernel_rfl) (by kernel_rfl) (fun _ _ _ h => h) (by rfl) ?_ hHeld ?_
                · intro w1 hSw; go_simp
                (try simp only [Act.put, List.setIfInBounds_toArray, List.set_cons_zero, List.set_cons_succ])
                refine takeQ (i := 24) (k := 39) (v := .bool false) rfl (by rfl) (by kernel_rfl) (by kernel_rfl) (by kernel_rfl) (fun _ _ _ h => h) (by rfl) ?_ hHeld ?_
                · intro w1 hSw; go_simp
                (try simp only [Act.put, List.setIfInBounds_toArray, List.set_cons_zero, List.set_cons_succ])
                refine takeQ (i := 25) (k := 40) (v := .bool false) rfl (by rfl) (by kernel_rfl) (by kernel_rfl) (by kernel_rfl) (fun _ _ _ h => h) (by rfl) ?_ hHeld ?_
                · intro w1 hSw; go_simp
                (try simp only [Act.put, List.setIfInBounds_toArray, List.set_cons_zero, List.set_cons_succ])
                refine takeQ (i := 26) (k := 41) (v := .pointer (some ⟨bx, 3, none⟩)) rfl (by rfl) (by kernel_rfl) (by kernel_rfl) (by kernel_rfl) (fun _ _ _ h => h) (by rfl) ?_ hHeld ?_
                · intro w1 hSw; go_simp
                (try simp only [Act.put, List.setIfInBounds_toArray, List.set_cons_zero, List.set_cons_succ])
                refine takeQ (i := 27) (k := 42) (v := .string s) rfl (by rfl) (by kernel_rfl) (by kernel_rfl) (by kernel_rfl) (fun _ _ _ h => h) (by rfl) ?_ hHeld ?_
                · intro w1 hSw; (obtain ⟨m0, m1, m2, m3⟩ := arrS_cells hSw.1); go_simp
                (try simp only [Act.put, List.setIfInBounds_toArray, List.set_cons_zero, List.set_cons_succ])
                refine wpAnyH_ready (rs := [28]) (by kernel_rfl) (by simp) ?_
                refine AllReadyH.cons rfl (fun K hK => ?_) AllReadyH.nil
                rw [if_pos (by rfl)]
                go_simp
                go_fit (jE _)
                rintro e0 wz ⟨rfl, hbz⟩
                refine hK.out _ _ ⟨arrS_on hHeld.1 hbz, hHeld.2.1.on hbz, hHeld.2.2.trans (hbz.mono hHeld.2.2.size)⟩ (fun hHeld => ?_)
                clear hK K
                (try simp only [Act.put, List.setIfInBounds_toArray, List.set_cons_zero, List.set_cons_succ])
                cases e
                · skip
                  refine takeQ (i := 29) (k := 44) (v := .bool true) rfl (by rfl) (by kernel_rfl) (by kernel_rfl) (by kernel_rfl) (fun _ _ _ h => h) (by rfl) ?_ hHeld ?_
                  · intro w1 hSw; go_simp
                  (try simp only [Act.put, List.setIfInBounds_toArray, List.set_cons_zero, List.set_cons_succ])
                  refine takeQ (i := 30) (k := 45) (v := .bool true) rfl (by rfl) (by kernel_rfl) (by kernel_rfl) (by kernel_rfl) (fun _ _ _ h => h) (by rfl) ?_ hHeld ?_
                  · intro w1 hSw; go_simp
                  (try simp only [Act.put, List.setIfInBounds_toArray, List.set_cons_zero, List.set_cons_succ])
                  refine takeQ (i := 31) (k := 46) (v := .bool true) rfl (by rfl) (by kernel_rfl) (by kernel_rfl) (by kernel_rfl) (fun _ _ _ h => h) (by rfl) ?_ hHeld ?_
                  · intro w1 hSw; go_simp
                  (try simp only [Act.put, List.setIfInBounds_toArray, List.set_cons_zero, List.set_cons_succ])
                  refine skipQ (i := 32) (k := 47) rfl (by rfl) (by kernel_rfl) (by kernel_rfl) (by kernel_rfl) (fun _ _ _ h => h) (by rfl) hHeld ?_
                  (try simp only [Act.put, List.setIfInBounds_toArray, List.set_cons_zero, List.set_cons_succ])
                  refine skipQ (i := 33) (k := 48) rfl (by rfl) (by kernel_rfl) (by kernel_rfl) (by kernel_rfl) (fun _ _ _ h => h) (by rfl) hHeld ?_
                  (try simp only [Act.put, List.setIfInBounds_toArray, List.set_cons_zero, List.set_cons_succ])
                  refine skipQ (i := 34) (k := 49) rfl (by rfl) (by kernel_rfl) (by kernel_rfl) (by kernel_rfl) (fun _ _ _ h => h) (by rfl) hHeld ?_
                  (try simp only [Act.put, List.setIfInBounds_toArray, List.set_cons_zero, List.set_cons_succ])
                  refine skipQ (i := 35) (k := 50) rfl (by rfl) (by kernel_rfl) (by kernel_rfl) (by kernel_rfl) (fun _ _ _ h => h) (by rfl) hHeld ?_
                  (try simp only [Act.put, List.setIfInBounds_toArray, List.set_cons_zero, List.set_cons_succ])
                  refine skipQ (i := 36) (k := 51) rfl (by rfl) (by kernel_rfl) (by kernel_rfl) (by kernel_rfl) (fun _ _ _ h => h) (by rfl) hHeld ?_
                  (try simp only [Act.put, List.setIfInBounds_toArray, List.set_cons_zero, List.set_cons_succ])
                  refine skipQ (i := 37) (k := 52) rfl (by rfl) (by kernel_rfl) (by kernel_rfl) (by kernel_rfl) (fun _ _ _ h => h) (by rfl) hHeld ?_
                  (try simp only [Act.put, List.setIfInBounds_toArray, List.set_cons_zero, List.set_cons_succ])
                  refine skipQ (i := 38) (k := 53) rfl (by rfl) (by kernel_rfl) (by kernel_rfl) (by kernel_rfl) (fun _ _ _ h => h) (by rfl) hHeld ?_
                  (try simp only [Act.put, List.setIfInBounds_toArray, List.set_cons_zero, List.set_cons_succ])
                  refine skipQ (i := 39) (k := 54) rfl (by rfl) (by kernel_rfl) (by kernel_rfl) (by kernel_rfl) (fun _ _ _ h => h) (by rfl) hHeld ?_
                  (try simp only [Act.put, List.setIfInBounds_toArray, List.set_cons_zero, List.set_cons_succ])
                  refine skipQ (i := 40) (k := 55) rfl (by rfl) (by kernel_rfl) (by kernel_rfl) (by kernel_rfl) (fun _ _ _ h => h) (by rfl) hHeld ?_
                  (try simp only [Act.put, List.setIfInBounds_toArray, List.set_cons_zero, List.set_cons_succ])
                  refine skipQ (i := 41) (k := 56) rfl (by rfl) (by kernel_rfl) (by kernel_rfl) (by kernel_rfl) (fun _ _ _ h => h) (by rfl) hHeld ?_
                  (try simp only [Act.put, List.setIfInBounds_toArray, List.set_cons_zero, List.set_cons_succ])
                  refine skipQ (i := 42) (k := 57) rfl (by rfl) (by kernel_rfl) (by kernel_rfl) (by kernel_rfl) (fun _ _ _ h => h) (by rfl) hHeld ?_
                  (try simp only [Act.put, List.setIfInBounds_toArray, List.set_cons_zero, List.set_cons_succ])
                  refine skipQ (i := 43) (k := 58) rfl (by rfl) (by kernel_rfl) (by kernel_rfl) (by kernel_rfl) (fun _ _ _ h => h) (by rfl) hHeld ?_
                  (try simp only [Act.put, List.setIfInBounds_toArray, List.set_cons_zero, List.set_cons_succ])
                  refine skipQ (i := 44) (k := 59) rfl (by rfl) (by kernel_rfl) (by kernel_rfl) (by kernel_rfl) (fun _ _ _ h => h) (by rfl) hHeld ?_
                  (try simp only [Act.put, List.setIfInBounds_toArray, List.set_cons_zero, List.set_cons_succ])
                  refine takeQ (i := 45) (k := 60) (v := .bool true) rfl (by rfl) (by kernel_rfl) (by kernel_rfl) (by kernel_rfl) (fun _ _ _ h => h) (by rfl) ?_ hHeld ?_
                  · intro w1 hSw; go_simp
                  (try simp only [Act.put, List.setIfInBounds_toArray, List.set_cons_zero, List.set_cons_succ])
                  refine wpAnyH_done (by kernel_rfl) ?_ _
                  exact ⟨⟨congrArg Value.bool (show true = bad by rw [HBAD.out]; simp), hHeld⟩, by simp only [putAll, Act.put, List.setIfInBounds_toArray, List.set_cons_zero, List.set_cons_succ]; rfl⟩
                · skip
                  refine takeQ (i := 29) (k := 44) (v := .bool false) rfl (by rfl) (by kernel_rfl) (by kernel_rfl) (by kernel_rfl) (fun _ _ _ h => h) (by rfl) ?_ hHeld ?_
                  · intro w1 hSw; go_simp
                  (try simp only [Act.put, List.setIfInBounds_toArray, List.set_cons_zero, List.set_cons_succ])
                  refine takeQ (i := 30) (k := 45) (v := .bool false) rfl (by rfl) (by kernel_rfl) (by kernel_rfl) (by kernel_rfl) (fun _ _ _ h => h) (by rfl) ?_ hHeld ?_
                  · intro w1 hSw; go_simp
                  (try simp only [Act.put, List.setIfInBounds_toArray, List.set_cons_zero, List.set_cons_succ])
                  refine takeQ (i := 31) (k := 46) (v := .bool false) rfl (by rfl) (by kernel_rfl) (by kernel_rfl) (by kernel_rfl) (fun _ _ _ h => h) (by rfl) ?_ hHeld ?_
                  · intro w1 hSw; go_simp
                  (try simp only [Act.put, List.setIfInBounds_toArray, List.set_cons_zero, List.set_cons_succ])
                  refine takeQ (i := 32) (k := 47) (v := .pointer (some ⟨bx, 1, none⟩)) rfl (by rfl) (by kernel_rfl) (by kernel_rfl) (by kernel_rfl) (fun _ _ _ h => h) (by rfl) ?_ hHeld ?_
                  · intro w1 hSw; go_simp
                  (try simp only [Act.put, List.setIfInBounds_toArray, List.set_cons_zero, List.set_cons_succ])
                  refine takeQ (i := 33) (k := 48) (v := .bool o) rfl (by rfl) (by kernel_rfl) (by kernel_rfl) (by kernel_rfl) (fun _ _ _ h => h) (by rfl) ?_ hHeld ?_
                  · intro w1 hSw; (obtain ⟨m0, m1, m2, m3⟩ := arrS_cells hSw.1); go_simp
                  (try simp only [Act.put, List.setIfInBounds_toArray, List.set_cons_zero, List.set_cons_succ])
                  cases o
                  · skip
                    refine takeQ (i := 34) (k := 49) (v := .bool true) rfl (by rfl) (by kernel_rfl) (by kernel_rfl) (by kernel_rfl) (fun _ _ _ h => h) (by rfl) ?_ hHeld ?_
                    · intro w1 hSw; go_simp
                    (try simp only [Act.put, List.setIfInBounds_toArray, List.set_cons_zero, List.set_cons_succ])
                    refine takeQ (i := 35) (k := 50) (v := .bool true) rfl (by rfl) (by kernel_rfl) (by kernel_rfl) (by kernel_rfl) (fun _ _ _ h => h) (by rfl) ?_ hHeld ?_
                    · intro w1 hSw; go_simp
                    (try simp only [Act.put, List.setIfInBounds_toArray, List.set_cons_zero, List.set_cons_succ])
                    refine takeQ (i := 36) (k := 51) (v := .pointer (some ⟨bx, 2, none⟩)) rfl (by rfl) (by kernel_rfl) (by kernel_rfl) (by kernel_rfl) (fun _ _ _ h => h) (by rfl) ?_ hHeld ?_
                    · intro w1 hSw; go_simp
                    (try simp only [Act.put, List.setIfInBounds_toArray, List.set_cons_zero, List.set_cons_succ])
                    refine takeQ (i := 37) (k := 52) (v := .int .i64 p) rfl (by rfl) (by kernel_rfl) (by kernel_rfl) (by kernel_rfl) (fun _ _ _ h => h) (by rfl) ?_ hHeld ?_
                    · intro w1 hSw; (obtain ⟨m0, m1, m2, m3⟩ := arrS_cells hSw.1); go_simp
                    (try simp only [Act.put, List.setIfInBounds_toArray, List.set_cons_zero, List.set_cons_succ])
                    refine takeQ (i := 38) (k := 53) (v := .bool bp) rfl (by rfl) (by kernel_rfl) (by kernel_rfl) (by kernel_rfl) (fun _ _ _ h => h) (by rfl) ?_ hHeld ?_
                    · intro w1 hSw; go_simp
                    (try simp only [Act.put, List.setIfInBounds_toArray, List.set_cons_zero, List.set_cons_succ])
                    cases bp
                    · skip
                      refine takeQ (i := 39) (k := 54) (v := .bool false) rfl (by rfl) (by kernel_rfl) (by kernel_rfl) (by kernel_rfl) (fun _ _ _ h => h) (by rfl) ?_ hHeld ?_
                      · intro w1 hSw; go_simp
                      (try simp only [Act.put, List.setIfInBounds_toArray, List.set_cons_zero, List.set_cons_succ])
                      refine takeQ (i := 40) (k := 55) (v := .pointer (some ⟨bx, 3, none⟩)) rfl (by rfl) (by kernel_rfl) (by kernel_rfl) (by kernel_rfl) (fun _ _ _ h => h) (by rfl) ?_ hHeld ?_
                      · intro w1 hSw; go_simp
                      (try simp only [Act.put, List.setIfInBounds_toArray, List.set_cons_zero, List.set_cons_succ])
                      refine takeQ (i := 41) (k := 56) (v := .string s) rfl (by rfl) (by kernel_rfl) (by kernel_rfl) (by kernel_rfl) (fun _ _ _ h => h) (by rfl) ?_ hHeld ?_
                      · intro w1 hSw; (obtain ⟨m0, m1, m2, m3⟩ := arrS_cells hSw.1); go_simp
                      (try simp only [Act.put, List.setIfInBounds_toArray, List.set_cons_zero, List.set_cons_succ])
                      refine takeQ (i := 42) (k := 57) (v := .bool (!es)) rfl (by rfl) (by kernel_rfl) (by kernel_rfl) (by kernel_rfl) (fun _ _ _ h => h) (by rfl) ?_ hHeld ?_
                      · intro w1 hSw; go_simp
                      (try simp only [Act.put, List.setIfInBounds_toArray, List.set_cons_zero, List.set_cons_succ])
                      cases es
                      · skip
                        refine takeQ (i := 43) (k := 58) (v := .bool true) rfl (by rfl) (by kernel_rfl) (by kernel_rfl) (by kernel_rfl) (fun _ _ _ h => h) (by rfl) ?_ hHeld ?_
                        · intro w1 hSw; go_simp
                        (try simp only [Act.put, List.setIfInBounds_toArray, List.set_cons_zero, List.set_cons_succ])
                        refine takeQ (i := 44) (k := 59) (v := .bool true) rfl (by rfl) (by kernel_rfl) (by kernel_rfl) (by kernel_rfl) (fun _ _ _ h => h) (by rfl) ?_ hHeld ?_
                        · intro w1 hSw; go_simp
                        (try simp only [Act.put, List.setIfInBounds_toArray, List.set_cons_zero, List.set_cons_succ])
                        refine takeQ (i := 45) (k := 60) (v := .bool true) rfl (by rfl) (by kernel_rfl) (by kernel_rfl) (by kernel_rfl) (fun _ _ _ h => h) (by rfl) ?_ hHeld ?_
                        · intro w1 hSw; go_simp
                        (try simp only [Act.put, List.setIfInBounds_toArray, List.set_cons_zero, List.set_cons_succ])
                        refine wpAnyH_done (by kernel_rfl) ?_ _
                        exact ⟨⟨congrArg Value.bool (show true = bad by rw [HBAD.out]; simp), hHeld⟩, by simp only [putAll, Act.put, List.setIfInBounds_toArray, List.set_cons_zero, List.set_cons_succ]; rfl⟩
                      · skip
                        refine takeQ (i := 43) (k := 58) (v := .bool false) rfl (by rfl) (by kernel_rfl) (by kernel_rfl) (by kernel_rfl) (fun _ _ _ h => h) (by rfl) ?_ hHeld ?_
                        · intro w1 hSw; go_simp
                        (try simp only [Act.put, List.setIfInBounds_toArray, List.set_cons_zero, List.set_cons_succ])
                        refine takeQ (i := 44) (k := 59) (v := .bool false) rfl (by rfl) (by kernel_rfl) (by kernel_rfl) (by kernel_rfl) (fun _ _ _ h => h) (by rfl) ?_ hHeld ?_
                        · intro w1 hSw; go_simp
                        (try simp only [Act.put, List.setIfInBounds_toArray, List.set_cons_zero, List.set_cons_succ])
                        refine takeQ (i := 45) (k := 60) (v := .bool false) rfl (by rfl) (by kernel_rfl) (by kernel_rfl) (by kernel_rfl) (fun _ _ _ h => h) (by rfl) ?_ hHeld ?_
                        · intro w1 hSw; go_simp
                        (try simp only [Act.put, List.setIfInBounds_toArray, List.set_cons_zero, List.set_cons_succ])
                        refine wpAnyH_done (by kernel_rfl) ?_ _
                        exact ⟨⟨congrArg Value.bool (show false = bad by rw [HBAD.out]; simp), hHeld⟩, by simp only [putAll, Act.put, List.setIfInBounds_toArray, List.set_cons_zero, List.set_cons_succ]; rfl⟩
                    · skip
                      refine takeQ (i := 39) (k := 54) (v := .bool true) rfl (by rfl) (by kernel_rfl) (by kernel_rfl) (by kernel_rfl) (fun _ _ _ h => h) (by rfl) ?_ hHeld ?_
                      · intro w1 hSw; go_simp
                      (try simp only [Act.put, List.setIfInBounds_toArray, List.set_cons_zero, List.set_cons_succ])
                      refine skipQ (i := 40) (k := 55) rfl (by rfl) (by kernel_rfl) (by kernel_rfl) (by kernel_rfl) (fun _ _ _ h => h) (by rfl) hHeld ?_
                      (try simp only [Act.put, List.setIfInBounds_toArray, List.set_cons_zero, List.set_cons_succ])
                      refine skipQ (i := 41) (k := 56) rfl (by rfl) (by kernel_rfl) (by kernel_rfl) (by kernel_rfl) (fun _ _ _ h => h) (by rfl) hHeld ?_
                      (try simp only [Act.put, List.setIfInBounds_toArray, List.set_cons_zero, List.set_cons_succ])
                      refine skipQ (i := 42) (k := 57) rfl (by rfl) (by kernel_rfl) (by kernel_rfl) (by kernel_rfl) (fun _ _ _ h => h) (by rfl) hHeld ?_
                      (try simp only [Act.put, List.setIfInBounds_toArray, List.set_cons_zero, List.set_cons_succ])
                      refine takeQ (i := 43) (k := 58) (v := .bool true) rfl (by rfl) (by kernel_rfl) (by kernel_rfl) (by kernel_rfl) (fun _ _ _ h => h) (by rfl) ?_ hHeld ?_
                      · intro w1 hSw; go_simp
                      (try simp only [Act.put, List.setIfInBounds_toArray, List.set_cons_zero, List.set_cons_succ])
                      refine takeQ (i := 44) (k := 59) (v := .bool true) rfl (by rfl) (by kernel_rfl) (by kernel_rfl) (by kernel_rfl) (fun _ _ _ h => h) (by rfl) ?_ hHeld ?_
                      · intro w1 hSw; go_simp
                      (try simp only [Act.put, List.setIfInBounds_toArray, List.set_cons_zero, List.set_cons_succ])
                      refine takeQ (i := 45) (k := 60) (v := .bool true) rfl (by rfl) (by kernel_rfl) (by kernel_rfl) (by kernel_rfl) (fun _ _ _ h => h) (by rfl) ?_ hHeld ?_
                      · intro w1 hSw; go_simp
                      (try simp only [Act.put, List.setIfInBounds_toArray, List.set_cons_zero, List.set_cons_succ])
                      refine wpAnyH_done (by kernel_rfl) ?_ _
                      exact ⟨⟨congrArg Value.bool (show true = bad by rw [HBAD.out]; simp), hHeld⟩, by simp only [putAll, Act.put, List.setIfInBounds_toArray, List.set_cons_zero, List.set_cons_succ]; rfl⟩
                  · skip
                    refine takeQ (i := 34) (k := 49) (v := .bool false) rfl (by rfl) (by kernel_rfl) (by kernel_rfl) (by kernel_rfl) (fun _ _ _ h => h) (by rfl) ?_ hHeld ?_
                    · intro w1 hSw; go_simp
                    (try simp only [Act.put, List.setIfInBounds_toArray, List.set_cons_zero, List.set_cons_succ])
                    refine takeQ (i := 35) (k := 50) (v := .bool false) rfl (by rfl) (by kernel_rfl) (by kernel_rfl) (by kernel_rfl) (fun _ _ _ h => h) (by rfl) ?_ hHeld ?_
                    · intro w1 hSw; go_simp
                    (try simp only [Act.put, List.setIfInBounds_toArray, List.set_cons_zero, List.set_cons_succ])
                    refine skipQ (i := 36) (k := 51) rfl (by rfl) (by kernel_rfl) (by kernel_rfl) (by kernel_rfl) (fun _ _ _ h => h) (by rfl) hHeld ?_
                    (try simp only [Act.put, List.setIfInBounds_toArray, List.set_cons_zero, List.set_cons_succ])
                    refine skipQ (i := 37) (k := 52) rfl (by rfl) (by kernel_rfl) (by kernel_rfl) (by kernel_rfl) (fun _ _ _ h => h) (by rfl) hHeld ?_
                    (try simp only [Act.put, List.setIfInBounds_toArray, List.set_cons_zero, List.set_cons_succ])
                    refine skipQ (i := 38) (k := 53) rfl (by rfl) (by kernel_rfl) (by kernel_rfl) (by kernel_rfl) (fun _ _ _ h => h) (by rfl) hHeld ?_
                    (try simp only [Act.put, List.setIfInBounds_toArray, List.set_cons_zero, List.set_cons_succ])
                    refine skipQ (i := 39) (k := 54) rfl (by rfl) (by kernel_rfl) (by kernel_rfl) (by kernel_rfl) (fun _ _ _ h => h) (by rfl) hHeld ?_
                    (try simp only [Act.put, List.setIfInBounds_toArray, List.set_cons_zero, List.set_cons_succ])
                    refine skipQ (i := 40) (k := 55) rfl (by rfl) (by kernel_rfl) (by kernel_rfl) (by kernel_rfl) (fun _ _ _ h => h) (by rfl) hHeld ?_
                    (try simp only [Act.put, List.setIfInBounds_toArray, List.set_cons_zero, List.set_cons_succ])
                    refine skipQ (i := 41) (k := 56) rfl (by rfl) (by kernel_rfl) (by kernel_rfl) (by kernel_rfl) (fun _ _ _ h => h) (by rfl) hHeld ?_
                    (try simp only [Act.put, List.setIfInBounds_toArray, List.set_cons_zero, List.set_cons_succ])
                    refine skipQ (i := 42) (k := 57) rfl (by rfl) (by kernel_rfl) (by kernel_rfl) (by kernel_rfl) (fun _ _ _ h => h) (by rfl) hHeld ?_
                    (try simp only [Act.put, List.setIfInBounds_toArray, List.set_cons_zero, List.set_cons_succ])
                    refine skipQ (i := 43) (k := 58) rfl (by rfl) (by kernel_rfl) (by kernel_rfl) (by kernel_rfl) (fun _ _ _ h => h) (by rfl) hHeld ?_
                    (try simp only [Act.put, List.setIfInBounds_toArray, List.set_cons_zero, List.set_cons_succ])
                    refine takeQ (i := 44) (k := 59) (v := .bool false) rfl (by rfl) (by kernel_rfl) (by kernel_rfl) (by kernel_rfl) (fun _ _ _ h => h) (by rfl) ?_ hHeld ?_
                    · intro w1 hSw; go_simp
                    (try simp only [Act.put, List.setIfInBounds_toArray, List.set_cons_zero, List.set_cons_succ])
                    refine takeQ (i := 45) (k := 60) (v := .bool false) rfl (by rfl) (by kernel_rfl) (by kernel_rfl) (by kernel_rfl) (fun _ _ _ h => h) (by rfl) ?_ hHeld ?_
                    · intro w1 hSw; go_simp
                    (try simp only [Act.put, List.setIfInBounds_toArray, List.set_cons_zero, List.set_cons_succ])
                    refine wpAnyH_done (by kernel_rfl) ?_ _
                    exact ⟨⟨congrArg Value.bool (show false = bad by rw [HBAD.out]; simp), hHeld⟩, by simp only [putAll, Act.put, List.setIfInBounds_toArray, List.set_cons_zero, List.set_cons_succ]; rfl⟩
            | succ m =>
              have hm1 : m < xs.length := by rw [HN.out]; omega
              obtain ⟨y, hy⟩ : ∃ y, xs[m] = y := ⟨_, rfl⟩
              replace HBAD : Hid (bad = !(true && Op.bytesLess y.r.toList r.toList && d && e && (o || (!bp && es)))) := Lib.hid (by rw [HBAD.out, HLT1.out m rfl hm1, hy])
              have HY := Lib.hid hy
              obtain ⟨lt, hlt2⟩ : ∃ b, Op.bytesLess y.r.toList r.toList = b := ⟨_, rfl⟩
              rw [hlt2] at HBAD
              have hwr : IntKind.i64.wrap ((m : Int) + 1 - 1) = (m : Int) := by rw [IntWalk.i64_in _ (by omega)]; omega
              have hwr2 : IntKind.i64.wrap (m : Int) = (m : Int) := IntWalk.i64_in _ (by omega)
              have q1 : (0 : Int) ≤ (m : Int) := by omega
              have q2 : (m : Int) < (n : Int) := by omega
              refine takeQ (i := 5) (k := 20) (v := .int .i64 ((m : Int) + 1)) rfl (by rfl) (by kernel_rfl) (by kernel_rfl) (by kernel_rfl) (fun _ _ _ h => h) (by rfl) ?_ hHeld ?_
              · intro w1 hSw; go_simp
              (try simp only [Act.put, List.setIfInBounds_toArray, List.set_cons_zero, List.set_cons_succ])
              refine takeQ (i := 6) (k := 21) (v := .bool true) rfl (by rfl) (by kernel_rfl) (by kernel_rfl) (by kernel_rfl) (fun _ _ _ h => h) (by rfl) ?_ hHeld ?_
              · intro w1 hSw; go_simp
              (try simp only [Act.put, List.setIfInBounds_toArray, List.set_cons_zero, List.set_cons_succ])
              refine takeQ (i := 7) (k := 22) (v := .bool true) rfl (by rfl) (by kernel_rfl) (by kernel_rfl) (by kernel_rfl) (fun _ _ _ h => h) (by rfl) ?_ hHeld ?_
              · intro w1 hSw; go_simp
              (try simp only [Act.put, List.setIfInBounds_toArray, List.set_cons_zero, List.set_cons_succ])
              refine takeQ (i := 8) (k := 23) (v := .slice (some ⟨g, 0, none⟩) n c) rfl (by rfl) (by kernel_rfl) (by kernel_rfl) (by kernel_rfl) (fun _ _ _ h => h) (by rfl) ?_ hHeld ?_
              · intro w1 hSw; go_simp
              (try simp only [Act.put, List.setIfInBounds_toArray, List.set_cons_zero, List.set_cons_succ])
              refine takeQ (i := 9) (k := 24) (v := .int .i64 ((m : Int) + 1)) rfl (by rfl) (by kernel_rfl) (by kernel_rfl) (by kernel_rfl) (fun _ _ _ h => h) (by rfl) ?_ hHeld ?_
              · intro w1 hSw; go_simp
              (try simp only [Act.put, List.setIfInBounds_toArray, List.set_cons_zero, List.set_cons_succ])
              refine takeQ (i := 10) (k := 25) (v := .int .i64 (m : Int)) rfl (by rfl) (by kernel_rfl) (by kernel_rfl) (by kernel_rfl) (fun _ _ _ h => h) (by rfl) ?_ hHeld ?_
              · intro w1 hSw; go_simp; (try (first | exact hwr | exact hwr2 | omega))
              (try simp only [Act.put, List.setIfInBounds_toArray, List.set_cons_zero, List.set_cons_succ])
              refine takeQ (i := 11) (k := 26) (v := .pointer (some ⟨g, m * 4, none⟩)) rfl (by rfl) (by kernel_rfl) (by kernel_rfl) (by kernel_rfl) (fun _ _ _ h => h) (by rfl) ?_ hHeld ?_
              · intro w1 hSw; go_simp
              (try simp only [Act.put, List.setIfInBounds_toArray, List.set_cons_zero, List.set_cons_succ])
              refine takeQ (i := 12) (k := 27) (v := .pointer (some ⟨g, m * 4, none⟩)) rfl (by rfl) (by kernel_rfl) (by kernel_rfl) (by kernel_rfl) (fun _ _ _ h => h) (by rfl) ?_ hHeld ?_
              · intro w1 hSw; go_simp
              (try simp only [Act.put, List.setIfInBounds_toArray, List.set_cons_zero, List.set_cons_succ])
              refine takeQ (i := 13) (k := 28) (v := .string y.r) rfl (by rfl) (by kernel_rfl) (by kernel_rfl) (by kernel_rfl) (fun _ _ _ h => h) (by rfl) ?_ hHeld ?_
              · intro w1 hSw; (obtain ⟨g2, hgg, _, y0, y1, y2, y3⟩ := row_se4 hSw.2.1 hm1); (injection hgg with hgg); (injection hgg with hgg); subst hgg; rw [HY.out] at y0; go_simp
              (try simp only [Act.put, List.setIfInBounds_toArray, List.set_cons_zero, List.set_cons_succ])
              refine takeQ (i := 14) (k := 29) (v := .pointer (some ⟨bx, 0, none⟩)) rfl (by rfl) (by kernel_rfl) (by kernel_rfl) (by kernel_rfl) (fun _ _ _ h => h) (by rfl) ?_ hHeld ?_
              · intro w1 hSw; go_simp
              (try simp only [Act.put, List.setIfInBounds_toArray, List.set_cons_zero, List.set_cons_succ])
              refine takeQ (i := 15) (k := 30) (v := .string r) rfl (by rfl) (by kernel_rfl) (by kernel_rfl) (by kernel_rfl) (fun _ _ _ h => h) (by rfl) ?_ hHeld ?_
              · intro w1 hSw; (obtain ⟨m0, m1, m2, m3⟩ := arrS_cells hSw.1); go_simp
              (try simp only [Act.put, List.setIfInBounds_toArray, List.set_cons_zero, List.set_cons_succ])
              refine takeQ (i := 16) (k := 31) (v := .bool (!lt)) rfl (by rfl) (by kernel_rfl) (by kernel_rfl) (by kernel_rfl) (fun _ _ _ h => h) (by rfl) ?_ hHeld ?_
              · intro w1 hSw; go_simp
              (try simp only [Act.put, List.setIfInBounds_toArray, List.set_cons_zero, List.set_cons_succ])
              cases lt
              · skip
                refine takeQ (i := 17) (k := 32) (v := .bool true) rfl (by rfl) (by kernel_rfl) (by kernel_rfl) (by kernel_rfl) (fun _ _ _ h => h) (by rfl) ?_ hHeld ?_
                · intro w1 hSw; go_simp
                (try simp only [Act.put, List.setIfInBounds_toArray, List.set_cons_zero, List.set_cons_succ])
                refine takeQ (i := 18) (k := 33) (v := .bool true) rfl (by rfl) (by kernel_rfl) (by kernel_rfl) (by kernel_rfl) (fun _ _ _ h => h) (by rfl) ?_ hHeld ?_
                · intro w1 hSw; go_simp
                (try simp only [Act.put, List.setIfInBounds_toArray, List.set_cons_zero, List.set_cons_succ])
                refine takeQ (i := 19) (k := 34) (v := .bool true) rfl (by rfl) (by kernel_rfl) (by kernel_rfl) (by kernel_rfl) (fun _ _ _ h => h) (by rfl) ?_ hHeld ?_
                · intro w1 hSw; go_simp
                (try simp only [Act.put, List.setIfInBounds_toArray, List.set_cons_zero, List.set_cons_succ])
                refine skipQ (i := 20) (k := 35) rfl (by rfl) (by kernel_rfl) (by kernel_rfl) (by kernel_rfl) (fun _ _ _ h => h) (by rfl) hHeld ?_
                (try simp only [Act.put, List.setIfInBounds_toArray, List.set_cons_zero, List.set_cons_succ])
                refine skipQ (i := 21) (k := 36) rfl (by rfl) (by kernel_rfl) (by kernel_rfl) (by kernel_rfl) (fun _ _ _ h => h) (by rfl) hHeld ?_
                (try simp only [Act.put, List.setIfInBounds_toArray, List.set_cons_zero, List.set_cons_succ])
                refine skipQ (i := 22) (k := 37) rfl (by rfl) (by kernel_rfl) (by kernel_rfl) (by kernel_rfl) (fun _ _ _ h => h) (by rfl) hHeld ?_
                (try simp only [Act.put, List.setIfInBounds_toArray, List.set_cons_zero, List.set_cons_succ])
                refine skipQ (i := 23) (k := 38) rfl (by rfl) (by kernel_rfl) (by kernel_rfl) (by kernel_rfl) (fun _ _ _ h => h) (by rfl) hHeld ?_
                (try simp only [Act.put, List.setIfInBounds_toArray, List.set_cons_zero, List.set_cons_succ])
                refine takeQ (i := 24) (k := 39) (v := .bool true) rfl (by rfl) (by kernel_rfl) (by kernel_rfl) (by kernel_rfl) (fun _ _ _ h => h) (by rfl) ?_ hHeld ?_
                · intro w1 hSw; go_simp
                (try simp only [Act.put, List.setIfInBounds_toArray, List.set_cons_zero, List.set_cons_succ])
                refine takeQ (i := 25) (k := 40) (v := .bool true) rfl (by rfl) (by kernel_rfl) (by kernel_rfl) (by kernel_rfl) (fun _ _ _ h => h) (by rfl) ?_ hHeld ?_
                · intro w1 hSw; go_simp
                (try simp only [Act.put, List.setIfInBounds_toArray, List.set_cons_zero, List.set_cons_succ])
                refine skipQ (i := 26) (k := 41) rfl (by rfl) (by kernel_rfl) (by kernel_rfl) (by kernel_rfl) (fun _ _ _ h => h) (by rfl) hHeld ?_
                (try simp only [Act.put, List.setIfInBounds_toArray, List.set_cons_zero, List.set_cons_succ])
                refine skipQ (i := 27) (k := 42) rfl (by rfl) (by kernel_rfl) (by kernel_rfl) (by kernel_rfl) (fun _ _ _ h => h) (by rfl) hHeld ?_
                (try simp only [Act.put, List.setIfInBounds_toArray, List.set_cons_zero, List.set_cons_succ])
                refine skipQ (i := 28) (k := 43) rfl (by rfl) (by kernel_rfl) (by kernel_rfl) (by kernel_rfl) (fun _ _ _ h => h) (by rfl) hHeld ?_
                (try simp only [Act.put, List.setIfInBounds_toArray, List.set_cons_zero, List.set_cons_succ])
                refine skipQ (i := 29) (k := 44) rfl (by rfl) (by kernel_rfl) (by kernel_rfl) (by kernel_rfl) (fun _ _ _ h => h) (by rfl) hHeld ?_
                (try simp only [Act.put, List.setIfInBounds_toArray, List.set_cons_zero, List.set_cons_succ])
                refine takeQ (i := 30) (k := 45) (v := .bool true) rfl (by rfl) (by kernel_rfl) (by kernel_rfl) (by kernel_rfl) (fun _ _ _ h => h) (by rfl) ?_ hHeld ?_
                · intro w1 hSw; go_simp
                (try simp only [Act.put, List.setIfInBounds_toArray, List.set_cons_zero, List.set_cons_succ])
                refine takeQ (i := 31) (k := 46) (v := .bool true) rfl (by rfl) (by kernel_rfl) (by kernel_rfl) (by kernel_rfl) (fun _ _ _ h => h) (by rfl) ?_ hHeld ?_
                · intro w1 hSw; go_simp
                (try simp only [Act.put, List.setIfInBounds_toArray, List.set_cons_zero, List.set_cons_succ])
                refine skipQ (i := 32) (k := 47) rfl (by rfl) (by kernel_rfl) (by kernel_rfl) (by kernel_rfl) (fun _ _ _ h => h) (by rfl) hHeld ?_
                (try simp only [Act.put, List.setIfInBounds_toArray, List.set_cons_zero, List.set_cons_succ])
                refine skipQ (i := 33) (k := 48) rfl (by rfl) (by kernel_rfl) (by kernel_rfl) (by kernel_rfl) (fun _ _ _ h => h) (by rfl) hHeld ?_
                (try simp only [Act.put, List.setIfInBounds_toArray, List.set_cons_zero, List.set_cons_succ])
                refine skipQ (i := 34) (k := 49) rfl (by rfl) (by kernel_rfl) (by kernel_rfl) (by kernel_rfl) (fun _ _ _ h => h) (by rfl) hHeld ?_
                (try simp only [Act.put, List.setIfInBounds_toArray, List.set_cons_zero, List.set_cons_succ])
                refine skipQ (i := 35) (k := 50) rfl (by rfl) (by kernel_rfl) (by kernel_rfl) (by kernel_rfl) (fun _ _ _ h => h) (by rfl) hHeld ?_
                (try simp only [Act.put, List.setIfInBounds_toArray, List.set_cons_zero, List.set_cons_succ])
                refine skipQ (i := 36) (k := 51) rfl (by rfl) (by kernel_rfl) (by kernel_rfl) (by kernel_rfl) (fun _ _ _ h => h) (by rfl) hHeld ?_
                (try simp only [Act.put, List.setIfInBounds_toArray, List.set_cons_zero, List.set_cons_succ])
                refine skipQ (i := 37) (k := 52) rfl (by rfl) (by kernel_rfl) (by kernel_rfl) (by kernel_rfl) (fun _ _ _ h => h) (by rfl) hHeld ?_
                (try simp only [Act.put, List.setIfInBounds_toArray, List.set_cons_zero, List.set_cons_succ])
                refine skipQ (i := 38) (k := 53) rfl (by rfl) (by kernel_rfl) (by kernel_rfl) (by kernel_rfl) (fun _ _ _ h => h) (by rfl) hHeld ?_
                (try simp only [Act.put, List.setIfInBounds_toArray, List.set_cons_zero, List.set_cons_succ])
                refine skipQ (i := 39) (k := 54) rfl (by rfl) (by kernel_rfl) (by kernel_rfl) (by kernel_rfl) (fun _ _ _ h => h) (by rfl) hHeld ?_
                (try simp only [Act.put, List.setIfInBounds_toArray, List.set_cons_zero, List.set_cons_succ])
                refine skipQ (i := 40) (k := 55) rfl (by rfl) (by kernel_rfl) (by kernel_rfl) (by kernel_rfl) (fun _ _ _ h => h) (by rfl) hHeld ?_
                (try simp only [Act.put, List.setIfInBounds_toArray, List.set_cons_zero, List.set_cons_succ])
                refine skipQ (i := 41) (k := 56) rfl (by rfl) (by kernel_rfl) (by kernel_rfl) (by kernel_rfl) (fun _ _ _ h => h) (by rfl) hHeld ?_
                (try simp only [Act.put, List.setIfInBounds_toArray, List.set_cons_zero, List.set_cons_succ])
                refine skipQ (i := 42) (k := 57) rfl (by rfl) (by kernel_rfl) (by kernel_rfl) (by kernel_rfl) (fun _ _ _ h => h) (by rfl) hHeld ?_
                (try simp only [Act.put, List.setIfInBounds_toArray, List.set_cons_zero, List.set_cons_succ])
                refine skipQ (i := 43) (k := 58) rfl (by rfl) (by kernel_rfl) (by kernel_rfl) (by kernel_rfl) (fun _ _ _ h => h) (by rfl) hHeld ?_
                (try simp only [Act.put, List.setIfInBounds_toArray, List.set_cons_zero, List.set_cons_succ])
                refine skipQ (i := 44) (k := 59) rfl (by rfl) (by kernel_rfl) (by kernel_rfl) (by kernel_rfl) (fun _ _ _ h => h) (by rfl) hHeld ?_
                (try simp only [Act.put, List.setIfInBounds_toArray, List.set_cons_zero, List.set_cons_succ])
                refine takeQ (i := 45) (k := 60) (v := .bool true) rfl (by rfl) (by kernel_rfl) (by kernel_rfl) (by kernel_rfl) (fun _ _ _ h => h) (by rfl) ?_ hHeld ?_
                · intro w1 hSw; go_simp
                (try simp only [Act.put, List.setIfInBounds_toArray, List.set_cons_zero, List.set_cons_succ])
                refine wpAnyH_done (by kernel_rfl) ?_ _
                exact ⟨⟨congrArg Value.bool (show true = bad by rw [HBAD.out]; simp), hHeld⟩, by simp only [putAll, Act.put, List.setIfInBounds_toArray, List.set_cons_zero, List.set_cons_succ]; rfl⟩
              · skip
                refine takeQ (i := 17) (k := 32) (v := .bool false) rfl (by rfl) (by kernel_rfl) (by kernel_rfl) (by kernel_rfl) (fun _ _ _ h => h) (by rfl) ?_ hHeld ?_
                · intro w1 hSw; go_simp
                (try simp only [Act.put, List.setIfInBounds_toArray, List.set_cons_zero, List.set_cons_succ])
                refine takeQ (i := 18) (k := 33) (v := .bool false) rfl (by rfl) (by kernel_rfl) (by kernel_rfl) (by kernel_rfl) (fun _ _ _ h => h) (by rfl) ?_ hHeld ?_
                · intro w1 hSw; go_simp
                (try simp only [Act.put, List.setIfInBounds_toArray, List.set_cons_zero, List.set_cons_succ])
                refine takeQ (i := 19) (k := 34) (v := .bool false) rfl (by rfl) (by kernel_rfl) (by kernel_rfl) (by kernel_rfl) (fun _ _ _ h => h) (by rfl) ?_ hHeld ?_
                · intro w1 hSw; go_simp
                (try simp only [Act.put, List.setIfInBounds_toArray, List.set_cons_zero, List.set_cons_succ])
                refine takeQ (i := 20) (k := 35) (v := .pointer (some ⟨bx, 2, none⟩)) rfl (by rfl) (by kernel_rfl) (by kernel_rfl) (by kernel_rfl) (fun _ _ _ h => h) (by rfl) ?_ hHeld ?_
                · intro w1 hSw; go_simp
                (try simp only [Act.put, List.setIfInBounds_toArray, List.set_cons_zero, List.set_cons_succ])
                refine takeQ (i := 21) (k := 36) (v := .int .i64 p) rfl (by rfl) (by kernel_rfl) (by kernel_rfl) (by kernel_rfl) (fun _ _ _ h => h) (by rfl) ?_ hHeld ?_
                · intro w1 hSw; (obtain ⟨m0, m1, m2, m3⟩ := arrS_cells hSw.1); go_simp
                (try simp only [Act.put, List.setIfInBounds_toArray, List.set_cons_zero, List.set_cons_succ])
                refine wpAnyH_ready (rs := [22]) (by kernel_rfl) (by simp) ?_
                refine AllReadyH.cons rfl (fun K hK => ?_) AllReadyH.nil
                rw [if_pos (by rfl)]
                go_simp
                go_fit (jD _)
                rintro e0 wz ⟨rfl, hwz⟩
                subst hwz
                refine hK.out _ _ hHeld (fun hHeld => ?_)
                clear hK K
                (try simp only [Act.put, List.setIfInBounds_toArray, List.set_cons_zero, List.set_cons_succ])
                cases d
                · skip
                  refine takeQ (i := 23) (k := 38) (v := .bool true) rfl (by rfl) (by kernel_rfl) (by kernel_rfl) (by kernel_rfl) (fun _ _ _ h => h) (by rfl) ?_ hHeld ?_
                  · intro w1 hSw; go_simp
                  (try simp only [Act.put, List.setIfInBounds_toArray, List.set_cons_zero, List.set_cons_succ])
                  refine takeQ (i := 24) (k := 39) (v := .bool true) rfl (by rfl) (by kernel_rfl) (by kernel_rfl) (by kernel_rfl) (fun _ _ _ h => h) (by rfl) ?_ hHeld ?_
                  · intro w1 hSw; go_simp
                  (try simp only [Act.put, List.setIfInBounds_toArray, List.set_cons_zero, List.set_cons_succ])
                  refine takeQ (i := 25) (k := 40) (v := .bool true) rfl (by rfl) (by kernel_rfl) (by kernel_rfl) (by kernel_rfl) (fun _ _ _ h => h) (by rfl) ?_ hHeld ?_
                  · intro w1 hSw; go_simp
                  (try simp only [Act.put, List.setIfInBounds_toArray, List.set_cons_zero, List.set_cons_succ])
                  refine skipQ (i := 26) (k := 41) rfl (by rfl) (by kernel_rfl) (by kernel_rfl) (by kernel_rfl) (fun _ _ _ h => h) (by rfl) hHeld ?_
                  (try simp only [Act.put, List.setIfInBounds_toArray, List.set_cons_zero, List.set_cons_succ])
                  refine skipQ (i := 27) (k := 42) rfl (by rfl) (by kernel_rfl) (by kernel_rfl) (by kernel_rfl) (fun _ _ _ h => h) (by rfl) hHeld ?_
                  (try simp only [Act.put, List.setIfInBounds_toArray, List.set_cons_zero, List.set_cons_succ])
                  refine skipQ (i := 28) (k := 43) rfl (by rfl) (by kernel_rfl) (by kernel_rfl) (by kernel_rfl) (fun _ _ _ h => h) (by rfl) hHeld ?_
                  (try simp only [Act.put, List.setIfInBounds_toArray, List.set_cons_zero, List.set_cons_succ])
                  refine skipQ (i := 29) (k := 44) rfl (by rfl) (by kernel_rfl) (by kernel_rfl) (by kernel_rfl) (fun _ _ _ h => h) (by rfl) hHeld ?_
                  (try simp only [Act.put, List.setIfInBounds_toArray, List.set_cons_zero, List.set_cons_succ])
                  refine takeQ (i := 30) (k := 45) (v := .bool true) rfl (by rfl) (by kernel_rfl) (by kernel_rfl) (by kernel_rfl) (fun _ _ _ h => h) (by rfl) ?_ hHeld ?_
                  · intro w1 hSw; go_simp
                  (try simp only [Act.put, List.setIfInBounds_toArray, List.set_cons_zero, List.set_cons_succ])
                  refine takeQ (i := 31) (k := 46) (v := .bool true) rfl (by rfl) (by kernel_rfl) (by kernel_rfl) (by kernel_rfl) (fun _ _ _ h => h) (by rfl) ?_ hHeld ?_
                  · intro w1 hSw; go_simp
                  (try simp only [Act.put, List.setIfInBounds_toArray, List.set_cons_zero, List.set_cons_succ])
                  refine skipQ (i := 32) (k := 47) rfl (by rfl) (by kernel_rfl) (by kernel_rfl) (by kernel_rfl) (fun _ _ _ h => h) (by rfl) hHeld ?_
                  (try simp only [Act.put, List.setIfInBounds_toArray, List.set_cons_zero, List.set_cons_succ])
                  refine skipQ (i := 33) (k := 48) rfl (by rfl) (by kernel_rfl) (by kernel_rfl) (by kernel_rfl) (fun _ _ _ h => h) (by rfl) hHeld ?_
                  (try simp only [Act.put, List.setIfInBounds_toArray, List.set_cons_zero, List.set_cons_succ])
                  refine skipQ (i := 34) (k := 49) rfl (by rfl) (by kernel_rfl) (by kernel_rfl) (by kernel_rfl) (fun _ _ _ h => h) (by rfl) hHeld ?_
                  (try simp only [Act.put, List.setIfInBounds_toArray, List.set_cons_zero, List.set_cons_succ])
                  refine skipQ (i := 35) (k := 50) rfl (by rfl) (by kernel_rfl) (by kernel_rfl) (by kernel_rfl) (fun _ _ _ h => h) (by rfl) hHeld ?_
                  (try simp only [Act.put, List.setIfInBounds_toArray, List.set_cons_zero, List.set_cons_succ])
                  refine skipQ (i := 36) (k := 51) rfl (by rfl) (by kernel_rfl) (by kernel_rfl) (by kernel_rfl) (fun _ _ _ h => h) (by rfl) hHeld ?_
                  (try simp only [Act.put, List.setIfInBounds_toArray, List.set_cons_zero, List.set_cons_succ])
                  refine skipQ (i := 37) (k := 52) rfl (by rfl) (by kernel_rfl) (by kernel_rfl) (by kernel_rfl) (fun _ _ _ h => h) (by rfl) hHeld ?_
                  (try simp only [Act.put, List.setIfInBounds_toArray, List.set_cons_zero, List.set_cons_succ])
                  refine skipQ (i := 38) (k := 53) rfl (by rfl) (by kernel_rfl) (by kernel_rfl) (by kernel_rfl) (fun _ _ _ h => h) (by rfl) hHeld ?_
                  (try simp only [Act.put, List.setIfInBounds_toArray, List.set_cons_zero, List.set_cons_succ])
                  refine skipQ (i := 39) (k := 54) rfl (by rfl) (by kernel_rfl) (by kernel_rfl) (by kernel_rfl) (fun _ _ _ h => h) (by rfl) hHeld ?_
                  (try simp only [Act.put, List.setIfInBounds_toArray, List.set_cons_zero, List.set_cons_succ])
                  refine skipQ (i := 40) (k := 55) rfl (by rfl) (by kernel_rfl) (by kernel_rfl) (by kernel_rfl) (fun _ _ _ h => h) (by rfl) hHeld ?_
                  (try simp only [Act.put, List.setIfInBounds_toArray, List.set_cons_zero, List.set_cons_succ])
                  refine skipQ (i := 41) (k := 56) rfl (by rfl) (by kernel_rfl) (by kernel_rfl) (by kernel_rfl) (fun _ _ _ h => h) (by rfl) hHeld ?_
                  (try simp only [Act.put, List.setIfInBounds_toArray, List.set_cons_zero, List.set_cons_succ])
                  refine skipQ (i := 42) (k := 57) rfl (by rfl) (by kernel_rfl) (by kernel_rfl) (by kernel_rfl) (fun _ _ _ h => h) (by rfl) hHeld ?_
                  (try simp only [Act.put, List.setIfInBounds_toArray, List.set_cons_zero, List.set_cons_succ])
                  refine skipQ (i := 43) (k := 58) rfl (by rfl) (by kernel_rfl) (by kernel_rfl) (by kernel_rfl) (fun _ _ _ h => h) (by rfl) hHeld ?_
                  (try simp only [Act.put, List.setIfInBounds_toArray, List.set_cons_zero, List.set_cons_succ])
                  refine skipQ (i := 44) (k := 59) rfl (by rfl) (by kernel_rfl) (by kernel_rfl) (by kernel_rfl) (fun _ _ _ h => h) (by rfl) hHeld ?_
                  (try simp only [Act.put, List.setIfInBounds_toArray, List.set_cons_zero, List.set_cons_succ])
                  refine takeQ (i := 45) (k := 60) (v := .bool true) rfl (by rfl) (by kernel_rfl) (by kernel_rfl) (by kernel_rfl) (fun _ _ _ h => h) (by rfl) ?_ hHeld ?_
                  · intro w1 hSw; go_simp
                  (try simp only [Act.put, List.setIfInBounds_toArray, List.set_cons_zero, List.set_cons_succ])
                  refine wpAnyH_done (by kernel_rfl) ?_ _
                  exact ⟨⟨congrArg Value.bool (show true = bad by rw [HBAD.out]; simp), hHeld⟩, by simp only [putAll, Act.put, List.setIfInBounds_toArray, List.set_cons_zero, List.set_cons_succ]; rfl⟩
                · skip
                  refine takeQ (i := 23) (k := 38) (v := .bool false) rfl (by rfl) (by kernel_rfl) (by kernel_rfl) (by kernel_rfl) (fun _ _ _ h => h) (by rfl) ?_ hHeld ?_
                  · intro w1 hSw; go_simp
                  (try simp only [Act.put, List.setIfInBounds_toArray, List.set_cons_zero, List.set_cons_succ])
                  refine takeQ (i := 24) (k := 39) (v := .bool false) rfl (by rfl) (by kernel_rfl) (by kernel_rfl) (by kernel_rfl) (fun _ _ _ h => h) (by rfl) ?_ hHeld ?_
                  · intro w1 hSw; go_simp
                  (try simp only [Act.put, List.setIfInBounds_toArray, List.set_cons_zero, List.set_cons_succ])
                  refine takeQ (i := 25) (k := 40) (v := .bool false) rfl (by rfl) (by kernel_rfl) (by kernel_rfl) (by kernel_rfl) (fun _ _ _ h => h) (by rfl) ?_ hHeld ?_
                  · intro w1 hSw; go_simp
                  (try simp only [Act.put, List.setIfInBounds_toArray, List.set_cons_zero, List.set_cons_succ])
                  refine takeQ (i := 26) (k := 41) (v := .pointer (some ⟨bx, 3, none⟩)) rfl (by rfl) (by kernel_rfl) (by kernel_rfl) (by kernel_rfl) (fun _ _ _ h => h) (by rfl) ?_ hHeld ?_
                  · intro w1 hSw; go_simp
                  (try simp only [Act.put, List.setIfInBounds_toArray, List.set_cons_zero, List.set_cons_succ])
                  refine takeQ (i := 27) (k := 42) (v := .string s) rfl (by rfl) (by kernel_rfl) (by kernel_rfl) (by kernel_rfl) (fun _ _ _ h => h) (by rfl) ?_ hHeld ?_
                  · intro w1 hSw; (obtain ⟨m0, m1, m2, m3⟩ := arrS_cells hSw.1); go_simp
                  (try simp only [Act.put, List.setIfInBounds_toArray, List.set_cons_zero, List.set_cons_succ])
                  refine wpAnyH_ready (rs := [28]) (by kernel_rfl) (by simp) ?_
                  refine AllReadyH.cons rfl (fun K hK => ?_) AllReadyH.nil
                  rw [if_pos (by rfl)]
                  go_simp
                  go_fit (jE _)
                  rintro e0 wz ⟨rfl, hbz⟩
                  refine hK.out _ _ ⟨arrS_on hHeld.1 hbz, hHeld.2.1.on hbz, hHeld.2.2.trans (hbz.mono hHeld.2.2.size)⟩ (fun hHeld => ?_)
                  clear hK K
                  (try simp only [Act.put, List.setIfInBounds_toArray, List.set_cons_zero, List.set_cons_succ])
                  cases e
                  · skip
                    refine takeQ (i := 29) (k := 44) (v := .bool true) rfl (by rfl) (by kernel_rfl) (by kernel_rfl) (by kernel_rfl) (fun _ _ _ h => h) (by rfl) ?_ hHeld ?_
                    · intro w1 hSw; go_simp
                    (try simp only [Act.put, List.setIfInBounds_toArray, List.set_cons_zero, List.set_cons_succ])
                    refine takeQ (i := 30) (k := 45) (v := .bool true) rfl (by rfl) (by kernel_rfl) (by kernel_rfl) (by kernel_rfl) (fun _ _ _ h => h) (by rfl) ?_ hHeld ?_
                    · intro w1 hSw; go_simp
                    (try simp only [Act.put, List.setIfInBounds_toArray, List.set_cons_zero, List.set_cons_succ])
                    refine takeQ (i := 31) (k := 46) (v := .bool true) rfl (by rfl) (by kernel_rfl) (by kernel_rfl) (by kernel_rfl) (fun _ _ _ h => h) (by rfl) ?_ hHeld ?_
                    · intro w1 hSw; go_simp
                    (try simp only [Act.put, List.setIfInBounds_toArray, List.set_cons_zero, List.set_cons_succ])
                    refine skipQ (i := 32) (k := 47) rfl (by rfl) (by kernel_rfl) (by kernel_rfl) (by kernel_rfl) (fun _ _ _ h => h) (by rfl) hHeld ?_
                    (try simp only [Act.put, List.setIfInBounds_toArray, List.set_cons_zero, List.set_cons_succ])
                    refine skipQ (i := 33) (k := 48) rfl (by rfl) (by kernel_rfl) (by kernel_rfl) (by kernel_rfl) (fun _ _ _ h => h) (by rfl) hHeld ?_
                    (try simp only [Act.put, List.setIfInBounds_toArray, List.set_cons_zero, List.set_cons_succ])
                    refine skipQ (i := 34) (k := 49) rfl (by rfl) (by kernel_rfl) (by kernel_rfl) (by kernel_rfl) (fun _ _ _ h => h) (by rfl) hHeld ?_
                    (try simp only [Act.put, List.setIfInBounds_toArray, List.set_cons_zero, List.set_cons_succ])
                    refine skipQ (i := 35) (k := 50) rfl (by rfl) (by kernel_rfl) (by kernel_rfl) (by kernel_rfl) (fun _ _ _ h => h) (by rfl) hHeld ?_
                    (try simp only [Act.put, List.setIfInBounds_toArray, List.set_cons_zero, List.set_cons_succ])
                    refine skipQ (i := 36) (k := 51) rfl (by rfl) (by kernel_rfl) (by kernel_rfl) (by kernel_rfl) (fun _ _ _ h => h) (by rfl) hHeld ?_
                    (try simp only [Act.put, List.setIfInBounds_toArray, List.set_cons_zero, List.set_cons_succ])
                    refine skipQ (i := 37) (k := 52) rfl (by rfl) (by kernel_rfl) (by kernel_rfl) (by kernel_rfl) (fun _ _ _ h => h) (by rfl) hHeld ?_
                    (try simp only [Act.put, List.setIfInBounds_toArray, List.set_cons_zero, List.set_cons_succ])
                    refine skipQ (i := 38) (k := 53) rfl (by rfl) (by kernel_rfl) (by kernel_rfl) (by kernel_rfl) (fun _ _ _ h => h) (by rfl) hHeld ?_
                    (try simp only [Act.put, List.setIfInBounds_toArray, List.set_cons_zero, List.set_cons_succ])
                    refine skipQ (i := 39) (k := 54) rfl (by rfl) (by kernel_rfl) (by kernel_rfl) (by kernel_rfl) (fun _ _ _ h => h) (by rfl) hHeld ?_
                    (try simp only [Act.put, List.setIfInBounds_toArray, List.set_cons_zero, List.set_cons_succ])
                    refine skipQ (i := 40) (k := 55) rfl (by rfl) (by kernel_rfl) (by kernel_rfl) (by kernel_rfl) (fun _ _ _ h => h) (by rfl) hHeld ?_
                    (try simp only [Act.put, List.setIfInBounds_toArray, List.set_cons_zero, List.set_cons_succ])
                    refine skipQ (i := 41) (k := 56) rfl (by rfl) (by kernel_rfl) (by kernel_rfl) (by kernel_rfl) (fun _ _ _ h => h) (by rfl) hHeld ?_
                    (try simp only [Act.put, List.setIfInBounds_toArray, List.set_cons_zero, List.set_cons_succ])
                    refine skipQ (i := 42) (k := 57) rfl (by rfl) (by kernel_rfl) (by kernel_rfl) (by kernel_rfl) (fun _ _ _ h => h) (by rfl) hHeld ?_
                    (try simp only [Act.put, List.setIfInBounds_toArray, List.set_cons_zero, List.set_cons_succ])
                    refine skipQ (i := 43) (k := 58) rfl (by rfl) (by kernel_rfl) (by kernel_rfl) (by kernel_rfl) (fun _ _ _ h => h) (by rfl) hHeld ?_
                    (try simp only [Act.put, List.setIfInBounds_toArray, List.set_cons_zero, List.set_cons_succ])
                    refine skipQ (i := 44) (k := 59) rfl (by rfl) (by kernel_rfl) (by kernel_rfl) (by kernel_rfl) (fun _ _ _ h => h) (by rfl) hHeld ?_
                    (try simp only [Act.put, List.setIfInBounds_toArray, List.set_cons_zero, List.set_cons_succ])
                    refine takeQ (i := 45) (k := 60) (v := .bool true) rfl (by rfl) (by kernel_rfl) (by kernel_rfl) (by kernel_rfl) (fun _ _ _ h => h) (by rfl) ?_ hHeld ?_
                    · intro w1 hSw; go_simp
                    (try simp only [Act.put, List.setIfInBounds_toArray, List.set_cons_zero, List.set_cons_succ])
                    refine wpAnyH_done (by kernel_rfl) ?_ _
                    exact ⟨⟨congrArg Value.bool (show true = bad by rw [HBAD.out]; simp), hHeld⟩, by simp only [putAll, Act.put, List.setIfInBounds_toArray, List.set_cons_zero, List.set_cons_succ]; rfl⟩
                  · skip
                    refine takeQ (i := 29) (k := 44) (v := .bool false) rfl (by rfl) (by kernel_rfl) (by kernel_rfl) (by kernel_rfl) (fun _ _ _ h => h) (by rfl) ?_ hHeld ?_
                    · intro w1 hSw; go_simp
                    (try simp only [Act.put, List.setIfInBounds_toArray, List.set_cons_zero, List.set_cons_succ])
                    refine takeQ (i := 30) (k := 45) (v := .bool false) rfl (by rfl) (by kernel_rfl) (by kernel_rfl) (by kernel_rfl) (fun _ _ _ h => h) (by rfl) ?_ hHeld ?_
                    · intro w1 hSw; go_simp
                    (try simp only [Act.put, List.setIfInBounds_toArray, List.set_cons_zero, List.set_cons_succ])
                    refine takeQ (i := 31) (k := 46) (v := .bool false) rfl (by rfl) (by kernel_rfl) (by kernel_rfl) (by kernel_rfl) (fun _ _ _ h => h) (by rfl) ?_ hHeld ?_
                    · intro w1 hSw; go_simp
                    (try simp only [Act.put, List.setIfInBounds_toArray, List.set_cons_zero, List.set_cons_succ])
                    refine takeQ (i := 32) (k := 47) (v := .pointer (some ⟨bx, 1, none⟩)) rfl (by rfl) (by kernel_rfl) (by kernel_rfl) (by kernel_rfl) (fun _ _ _ h => h) (by rfl) ?_ hHeld ?_
                    · intro w1 hSw; go_simp
                    (try simp only [Act.put, List.setIfInBounds_toArray, List.set_cons_zero, List.set_cons_succ])
                    refine takeQ (i := 33) (k := 48) (v := .bool o) rfl (by rfl) (by kernel_rfl) (by kernel_rfl) (by kernel_rfl) (fun _ _ _ h => h) (by rfl) ?_ hHeld ?_
                    · intro w1 hSw; (obtain ⟨m0, m1, m2, m3⟩ := arrS_cells hSw.1); go_simp
                    (try simp only [Act.put, List.setIfInBounds_toArray, List.set_cons_zero, List.set_cons_succ])
                    cases o
                    · skip
                      refine takeQ (i := 34) (k := 49) (v := .bool true) rfl (by rfl) (by kernel_rfl) (by kernel_rfl) (by kernel_rfl) (fun _ _ _ h => h) (by rfl) ?_ hHeld ?_
                      · intro w1 hSw; go_simp
                      (try simp only [Act.put, List.setIfInBounds_toArray, List.set_cons_zero, List.set_cons_succ])
                      refine takeQ (i := 35) (k := 50) (v := .bool true) rfl (by rfl) (by kernel_rfl) (by kernel_rfl) (by kernel_rfl) (fun _ _ _ h => h) (by rfl) ?_ hHeld ?_
                      · intro w1 hSw; go_simp
                      (try simp only [Act.put, List.setIfInBounds_toArray, List.set_cons_zero, List.set_cons_succ])
                      refine takeQ (i := 36) (k := 51) (v := .pointer (some ⟨bx, 2, none⟩)) rfl (by rfl) (by kernel_rfl) (by kernel_rfl) (by kernel_rfl) (fun _ _ _ h => h) (by rfl) ?_ hHeld ?_
                      · intro w1 hSw; go_simp
                      (try simp only [Act.put, List.setIfInBounds_toArray, List.set_cons_zero, List.set_cons_succ])
                      refine takeQ (i := 37) (k := 52) (v := .int .i64 p) rfl (by rfl) (by kernel_rfl) (by kernel_rfl) (by kernel_rfl) (fun _ _ _ h => h) (by rfl) ?_ hHeld ?_
                      · intro w1 hSw; (obtain ⟨m0, m1, m2, m3⟩ := arrS_cells hSw.1); go_simp
                      (try simp only [Act.put, List.setIfInBounds_toArray, List.set_cons_zero, List.set_cons_succ])
                      refine takeQ (i := 38) (k := 53) (v := .bool bp) rfl (by rfl) (by kernel_rfl) (by kernel_rfl) (by kernel_rfl) (fun _ _ _ h => h) (by rfl) ?_ hHeld ?_
                      · intro w1 hSw; go_simp
                      (try simp only [Act.put, List.setIfInBounds_toArray, List.set_cons_zero, List.set_cons_succ])
                      cases bp
                      · skip
                        refine takeQ (i := 39) (k := 54) (v := .bool false) rfl (by rfl) (by kernel_rfl) (by kernel_rfl) (by kernel_rfl) (fun _ _ _ h => h) (by rfl) ?_ hHeld ?_
                        · intro w1 hSw; go_simp
                        (try simp only [Act.put, List.setIfInBounds_toArray, List.set_cons_zero, List.set_cons_succ])
                        refine takeQ (i := 40) (k := 55) (v := .pointer (some ⟨bx, 3, none⟩)) rfl (by rfl) (by kernel_rfl) (by kernel_rfl) (by kernel_rfl) (fun _ _ _ h => h) (by rfl) ?_ hHeld ?_
                        · intro w1 hSw; go_simp
                        (try simp only [Act.put, List.setIfInBounds_toArray, List.set_cons_zero, List.set_cons_succ])
                        refine takeQ (i := 41) (k := 56) (v := .string s) rfl (by rfl) (by kernel_rfl) (by kernel_rfl) (by kernel_rfl) (fun _ _ _ h => h) (by rfl) ?_ hHeld ?_
                        · intro w1 hSw; (obtain ⟨m0, m1, m2, m3⟩ := arrS_cells hSw.1); go_simp
                        (try simp only [Act.put, List.setIfInBounds_toArray, List.set_cons_zero, List.set_cons_succ])
                        refine takeQ (i := 42) (k := 57) (v := .bool (!es)) rfl (by rfl) (by kernel_rfl) (by kernel_rfl) (by kernel_rfl) (fun _ _ _ h => h) (by rfl) ?_ hHeld ?_
                        · intro w1 hSw; go_simp
                        (try simp only [Act.put, List.setIfInBounds_toArray, List.set_cons_zero, List.set_cons_succ])
                        cases es
                        · skip
                          refine takeQ (i := 43) (k := 58) (v := .bool true) rfl (by rfl) (by kernel_rfl) (by kernel_rfl) (by kernel_rfl) (fun _ _ _ h => h) (by rfl) ?_ hHeld ?_
                          · intro w1 hSw; go_simp
                          (try simp only [Act.put, List.setIfInBounds_toArray, List.set_cons_zero, List.set_cons_succ])
                          refine takeQ (i := 44) (k := 59) (v := .bool true) rfl (by rfl) (by kernel_rfl) (by kernel_rfl) (by kernel_rfl) (fun _ _ _ h => h) (by rfl) ?_ hHeld ?_
                          · intro w1 hSw; go_simp
                          (try simp only [Act.put, List.setIfInBounds_toArray, List.set_cons_zero, List.set_cons_succ])
                          refine takeQ (i := 45) (k := 60) (v := .bool true) rfl (by rfl) (by kernel_rfl) (by kernel_rfl) (by kernel_rfl) (fun _ _ _ h => h) (by rfl) ?_ hHeld ?_
                          · intro w1 hSw; go_simp
                          (try simp only [Act.put, List.setIfInBounds_toArray, List.set_cons_zero, List.set_cons_succ])
                          refine wpAnyH_done (by kernel_rfl) ?_ _
                          exact ⟨⟨congrArg Value.bool (show true = bad by rw [HBAD.out]; simp), hHeld⟩, by simp only [putAll, Act.put, List.setIfInBounds_toArray, List.set_cons_zero, List.set_cons_succ]; rfl⟩
                        · skip
                          refine takeQ (i := 43) (k := 58) (v := .bool false) rfl (by rfl) (by kernel_rfl) (by kernel_rfl) (by kernel_rfl) (fun _ _ _ h => h) (by rfl) ?_ hHeld ?_
                          · intro w1 hSw; go_simp
                          (try simp only [Act.put, List.setIfInBounds_toArray, List.set_cons_zero, List.set_cons_succ])
                          refine takeQ (i := 44) (k := 59) (v := .bool false) rfl (by rfl) (by kernel_rfl) (by kernel_rfl) (by kernel_rfl) (fun _ _ _ h => h) (by rfl) ?_ hHeld ?_
                          · intro w1 hSw; go_simp
                          (try simp only [Act.put, List.setIfInBounds_toArray, List.set_cons_zero, List.set_cons_succ])
                          refine takeQ (i := 45) (k := 60) (v := .bool false) rfl (by rfl) (by kernel_rfl) (by kernel_rfl) (by kernel_rfl) (fun _ _ _ h => h) (by rfl) ?_ hHeld ?_
                          · intro w1 hSw; go_simp
                          (try simp only [Act.put, List.setIfInBounds_toArray, List.set_cons_zero, List.set_cons_succ])
                          refine wpAnyH_done (by kernel_rfl) ?_ _
                          exact ⟨⟨congrArg Value.bool (show false = bad by rw [HBAD.out]; simp), hHeld⟩, by simp only [putAll, Act.put, List.setIfInBounds_toArray, List.set_cons_zero, List.set_cons_succ]; rfl⟩
                      · skip
                        refine takeQ (i := 39) (k := 54) (v := .bool true) rfl (by rfl) (by kernel_rfl) (by kernel_rfl) (by kernel_rfl) (fun _ _ _ h => h) (by rfl) ?_ hHeld ?_
                        · intro w1 hSw; go_simp
                        (try simp only [Act.put, List.setIfInBounds_toArray, List.set_cons_zero, List.set_cons_succ])
                        refine skipQ (i := 40) (k := 55) rfl (by rfl) (by kernel_rfl) (by kernel_rfl) (by kernel_rfl) (fun _ _ _ h => h) (by rfl) hHeld ?_
                        (try simp only [Act.put, List.setIfInBounds_toArray, List.set_cons_zero, List.set_cons_succ])
                        refine skipQ (i := 41) (k := 56) rfl (by rfl) (by kernel_rfl) (by kernel_rfl) (by kernel_rfl) (fun _ _ _ h => h) (by rfl) hHeld ?_
                        (try simp only [Act.put, List.setIfInBounds_toArray, List.set_cons_zero, List.set_cons_succ])
                        refine skipQ (i := 42) (k := 57) rfl (by rfl) (by kernel_rfl) (by kernel_rfl) (by kernel_rfl) (fun _ _ _ h => h) (by rfl) hHeld ?_
                        (try simp only [Act.put, List.setIfInBounds_toArray, List.set_cons_zero, List.set_cons_succ])
                        refine takeQ (i := 43) (k := 58) (v := .bool true) rfl (by rfl) (by kernel_rfl) (by kernel_rfl) (by kernel_rfl) (fun _ _ _ h => h) (by rfl) ?_ hHeld ?_
                        · intro w1 hSw; go_simp
                        (try simp only [Act.put, List.setIfInBounds_toArray, List.set_cons_zero, List.set_cons_succ])
                        refine takeQ (i := 44) (k := 59) (v := .bool true) rfl (by rfl) (by kernel_rfl) (by kernel_rfl) (by kernel_rfl) (fun _ _ _ h => h) (by rfl) ?_ hHeld ?_
                        · intro w1 hSw; go_simp
                        (try simp only [Act.put, List.setIfInBounds_toArray, List.set_cons_zero, List.set_cons_succ])
                        refine takeQ (i := 45) (k := 60) (v := .bool true) rfl (by rfl) (by kernel_rfl) (by kernel_rfl) (by kernel_rfl) (fun _ _ _ h => h) (by rfl) ?_ hHeld ?_
                        · intro w1 hSw; go_simp
                        (try simp only [Act.put, List.setIfInBounds_toArray, List.set_cons_zero, List.set_cons_succ])
                        refine wpAnyH_done (by kernel_rfl) ?_ _
                        exact ⟨⟨congrArg Value.bool (show true = bad by rw [HBAD.out]; simp), hHeld⟩, by simp only [putAll, Act.put, List.setIfInBounds_toArray, List.set_cons_zero, List.set_cons_succ]; rfl⟩
                    · skip
                      refine takeQ (i := 34) (k := 49) (v := .bool false) rfl (by rfl) (by kernel_rfl) (by kernel_rfl) (by kernel_rfl) (fun _ _ _ h => h) (by rfl) ?_ hHeld ?_
                      · intro w1 hSw; go_simp
                      (try simp only [Act.put, List.setIfInBounds_toArray, List.set_cons_zero, List.set_cons_succ])
                      refine takeQ (i := 35) (k := 50) (v := .bool false) rfl (by rfl) (by kernel_rfl) (by kernel_rfl) (by kernel_rfl) (fun _ _ _ h => h) (by rfl) ?_ hHeld ?_
                      · intro w1 hSw; go_simp
                      (try simp only [Act.put, List.setIfInBounds_toArray, List.set_cons_zero, List.set_cons_succ])
                      refine skipQ (i := 36) (k := 51) rfl (by rfl) (by kernel_rfl) (by kernel_rfl) (by kernel_rfl) (fun _ _ _ h => h) (by rfl) hHeld ?_
                      (try simp only [Act.put, List.setIfInBounds_toArray, List.set_cons_zero, List.set_cons_succ])
                      refine skipQ (i := 37) (k := 52) rfl (by rfl) (by kernel_rfl) (by kernel_rfl) (by kernel_rfl) (fun _ _ _ h => h) (by rfl) hHeld ?_
                      (try simp only [Act.put, List.setIfInBounds_toArray, List.set_cons_zero, List.set_cons_succ])
                      refine skipQ (i := 38) (k := 53) rfl (by rfl) (by kernel_rfl) (by kernel_rfl) (by kernel_rfl) (fun _ _ _ h => h) (by rfl) hHeld ?_
                      (try simp only [Act.put, List.setIfInBounds_toArray, List.set_cons_zero, List.set_cons_succ])
                      refine skipQ (i := 39) (k := 54) rfl (by rfl) (by kernel_rfl) (by kernel_rfl) (by kernel_rfl) (fun _ _ _ h => h) (by rfl) hHeld ?_
                      (try simp only [Act.put, List.setIfInBounds_toArray, List.set_cons_zero, List.set_cons_succ])
                      refine skipQ (i := 40) (k := 55) rfl (by rfl) (by kernel_rfl) (by kernel_rfl) (by kernel_rfl) (fun _ _ _ h => h) (by rfl) hHeld ?_
                      (try simp only [Act.put, List.setIfInBounds_toArray, List.set_cons_zero, List.set_cons_succ])
                      refine skipQ (i := 41) (k := 56) rfl (by rfl) (by kernel_rfl) (by kernel_rfl) (by kernel_rfl) (fun _ _ _ h => h) (by rfl) hHeld ?_
                      (try simp only [Act.put, List.setIfInBounds_toArray, List.set_cons_zero, List.set_cons_succ])
                      refine skipQ (i := 42) (k := 57) rfl (by rfl) (by kernel_rfl) (by kernel_rfl) (by kernel_rfl) (fun _ _ _ h => h) (by rfl) hHeld ?_
                      (try simp only [Act.put, List.setIfInBounds_toArray, List.set_cons_zero, List.set_cons_succ])
                      refine skipQ (i := 43) (k := 58) rfl (by rfl) (by kernel_rfl) (by kernel_rfl) (by kernel_rfl) (fun _ _ _ h => h) (by rfl) hHeld ?_
                      (try simp only [Act.put, List.setIfInBounds_toArray, List.set_cons_zero, List.set_cons_succ])
                      refine takeQ (i := 44) (k := 59) (v := .bool false) rfl (by rfl) (by kernel_rfl) (by kernel_rfl) (by kernel_rfl) (fun _ _ _ h => h) (by rfl) ?_ hHeld ?_
                      · intro w1 hSw; go_simp
                      (try simp only [Act.put, List.setIfInBounds_toArray, List.set_cons_zero, List.set_cons_succ])
                      refine takeQ (i := 45) (k := 60) (v := .bool false) rfl (by rfl) (by kernel_rfl) (by kernel_rfl) (by kernel_rfl) (fun _ _ _ h => h) (by rfl) ?_ hHeld ?_
                      · intro w1 hSw; go_simp
                      (try simp only [Act.put, List.setIfInBounds_toArray, List.set_cons_zero, List.set_cons_succ])
                      refine wpAnyH_done (by kernel_rfl) ?_ _
                      exact ⟨⟨congrArg Value.bool (show false = bad by rw [HBAD.out]; simp), hHeld⟩, by simp only [putAll, Act.put, List.setIfInBounds_toArray, List.set_cons_zero, List.set_cons_succ]; rfl⟩
      rintro vs W2 ⟨hv, hS⟩
      simp only [putAll, Act.put, List.setIfInBounds_toArray, List.set_cons_zero, List.set_cons_succ, hv]
      have HS := Lib.hid hS.2.2
      clear hv hS HX0 HX1 jA jD jE
      cases bad
      · have hall : b1 = true ∧ lt0 = true ∧ d = true ∧ e = true ∧ (o || (!bp && es)) = true := by
          have h := HBAD.out
          generalize (o || (!bp && es)) = f at h ⊢
          revert h
          cases b1 <;> cases lt0 <;> cases d <;> cases e <;> cases f <;> decide
        have HALL := Lib.hid hall
        clear hall
        go_wp2
        go_roundw
        case rel =>
          refine ⟨k + 1, by omega, by go_num, incR_succ HI.out hlt1 (fun h0 h' => ?_), allR_succ HA.out hlt1 ?_, HS.out⟩
          · have h := HLT1.out (k - 1) (by omega) h'
            rw [HALL.out.2.1] at h
            rw [HXR.out]
            exact h.symm
          · rw [HSE.out, HALL.out.1, HALL.out.2.2.1, HALL.out.2.2.2.1, HALL.out.2.2.2.2]
            rfl
        case measure => simp [intOf]; omega
      · have HL : Hid (Z = false) := Lib.hid (by
          rw [← HZ.out]
          refine okB_false (fun h => ?_)
          have q1 := h.2.2 k hlt1 hlt1
          rw [HSE.out] at q1
          have q2 : lt0 = true := by
            rcases Nat.eq_zero_or_pos k with h0 | h0
            · exact HLT0.out h0
            · have hk1 : k - 1 < xs.length := by omega
              rw [HLT1.out (k - 1) (by omega) hk1, ← HXR.out]
              exact h.2.1 k hlt1 h0 hlt1 hk1
          have q3 := HBAD.out
          rw [q2] at q3
          generalize (o || (!bp && es)) = f at q1 q3
          revert q1 q3
          cases b1 <;> cases d <;> cases e <;> cases f <;> decide)
        go_wp2
        go_ret
        exact ⟨ret_bool HL.out.symm, HS.out⟩
    · have HL : Hid (Z = decide (n ≤ 5)) := Lib.hid (by
        rw [← HZ.out]
        by_cases h5 : n ≤ 5
        · rw [decide_eq_true h5]
          refine okB_true ⟨by rw [HN.out]; exact h5, fun i hi h0 h1 h' => HI.out i hi h0 (by rw [HN.out] at hi; omega) h', fun i hi h0 => HA.out i hi (by rw [HN.out] at hi; omega)⟩
        · rw [decide_eq_false h5]
          exact okB_false (fun h => h5 (by have := h.1; rw [HN.out] at this; exact this)))
      clear hb
      go_wp2
      go_ret
      exact ⟨ret_bool (by rw [HL.out]; simp; omega), HB.out⟩
end Go.Proofs.YtafdjjdmcnlddaaGreat

namespace Go.Proofs.YtafdjjdmcnlddaaGreat
set_option linter.unusedSimpArgs false
set_option linter.unusedVariables false
open Go.RowKit

/-- So many elements have been copied. -/
def Cop_se (xs : List SeL) (g n i : Nat) (W : World) : Prop := ∃ L, Arr W g 40 L ∧ L.length = n * 4 ∧ ∀ i' (h : i' < xs.length), i' < i → ∀ j, j < 4 → L[i' * 4 + j]? = (seC xs[i'])[j]?
theorem Cop_se.on {xs : List SeL} {g n i : Nat} {W W2 : World} (h : Cop_se xs g n i W) (hb : Below W.heap.size W W2) : Cop_se xs g n i W2 := by
  obtain ⟨L, h1, h2⟩ := h
  exact ⟨L, (hb.block g (Array.getElem?_eq_some_iff.1 h1).1).trans h1, h2⟩
theorem Cop_se.there {xs : List SeL} {g n i q : Nat} {W : World} (h : Cop_se xs g n i W) (hq : q < n * 4) : (∃ u, W.cell? ⟨g, q, none⟩ = some u) ∧ W.frozen? ⟨g, q, none⟩ = false := by
  obtain ⟨L, h1, h2, _⟩ := h
  rw [h1.cell, h1.free]
  exact ⟨⟨L[q]'(by omega), List.getElem?_eq_getElem _⟩, rfl⟩
theorem Cop_se.step {xs : List SeL} {g n i : Nat} {W : World} (h : Cop_se xs g n i W) (hi : i < n) {x : SeL} (hx : xs[i]? = some x) : Cop_se xs g n (i + 1) ((((W.setCell ⟨g, i * 4, none⟩ (.string x.r)).setCell ⟨g, i * 4 + 1, none⟩ (.bool x.o)).setCell ⟨g, i * 4 + 2, none⟩ (.int .i64 x.p)).setCell ⟨g, i * 4 + 3, none⟩ (.string x.s)) := by
  obtain ⟨L, h1, h2, h3⟩ := h
  refine ⟨_, (((h1.put (i * 4) _).put (i * 4 + 1) _).put (i * 4 + 2) _).put (i * 4 + 3) _, by simpa using h2, fun i' hi' hlt j hj => ?_⟩
  by_cases e : i' = i
  · subst e
    have ex : xs[i'] = x := by rw [List.getElem?_eq_getElem hi'] at hx; exact Option.some.inj hx
    rw [ex]
    match j, hj with
    | 0, _ => rw [show i' * 4 + 0 = i' * 4 from rfl]; rw [List.getElem?_set_ne (by omega)]; rw [List.getElem?_set_ne (by omega)]; rw [List.getElem?_set_ne (by omega)]; rw [List.getElem?_set_self (by first | omega | (simp; omega))]; rfl
    | 1, _ => rw [List.getElem?_set_ne (by omega)]; rw [List.getElem?_set_ne (by omega)]; rw [List.getElem?_set_self (by first | omega | (simp; omega))]; rfl
    | 2, _ => rw [List.getElem?_set_ne (by omega)]; rw [List.getElem?_set_self (by first | omega | (simp; omega))]; rfl
    | 3, _ => rw [List.getElem?_set_self (by first | omega | (simp; omega))]; rfl
  · have := h3 i' hi' (by omega) j hj
    rw [List.getElem?_set_ne (by omega), List.getElem?_set_ne (by omega), List.getElem?_set_ne (by omega), List.getElem?_set_ne (by omega)]
    exact this
theorem Cop_se.own {xs : List SeL} {g n B : Nat} {W : World} (h : Cop_se xs g n n W) (hn : xs.length = n) (hB : B ≤ g) (hm : n ≤ 1048576) : OwnC seC W B 40 4 (.slice (some ⟨g, 0, none⟩) n n) xs := by
  obtain ⟨L, h1, h2, h3⟩ := h
  have e : L = xs.flatMap seC := by
    apply List.ext_getElem?
    intro q
    by_cases hq : q < n * 4
    · have h4 := h3 (q / 4) (by rw [hn]; omega) (by omega) (q % 4) (by omega)
      rw [show q / 4 * 4 + q % 4 = q by omega] at h4
      rw [h4]
      have h5 := flat_at (enc := seC) (size := 4) (fun _ => rfl) xs (q / 4) (q % 4) (by rw [hn]; omega) (by omega)
      rw [show q / 4 * 4 + q % 4 = q by omega] at h5
      exact h5.symm
    · rw [List.getElem?_eq_none (by omega), List.getElem?_eq_none]
      rw [flat_len (enc := seC) (size := 4) (fun _ => rfl), hn]
      omega
  refine ⟨by rw [flat_len (enc := seC) (size := 4) (fun _ => rfl)], .inr ⟨g, n, L.toArray, by rw [hn], hB, h1, by omega, by unfold maxLen; omega, by simpa using h2, ?_⟩⟩
  rw [← e, List.take_of_length_le (by simp; rw [h2, hn]; omega)]
end Go.Proofs.YtafdjjdmcnlddaaGreat

namespace Go.Proofs.YtafdjjdmcnlddaaGreat
set_option linter.unusedSimpArgs false
set_option linter.unusedVariables false
open Go.RowKit

end Go.Proofs.YtafdjjdmcnlddaaGreat

namespace Go.Proofs.YtafdjjdmcnlddaaGreat
set_option linter.unusedSimpArgs false
set_option linter.unusedVariables false
open Go.ChangeShapes Go.WideShapes Go.ChangeAt Go.RowKit Go.Joins

/-- A slice of sessions among the arguments. -/
def SsArg (W : World) (a : Option Addr) (len : Nat) (ps : List SeL) : Prop := ps.length = len ∧ len ≤ maxLen ∧ (∀ p ∈ ps, p.wf) ∧ RowA seC 4 W a ps
theorem SsArg.below {W W2 : World} {a : Option Addr} {len : Nat} {ps : List SeL} (h : SsArg W a len ps) (hb : Below W.heap.size W W2) : SsArg W2 a len ps := ⟨h.1, h.2.1, h.2.2.1, h.2.2.2.below hb⟩
theorem addr_plainS {w : World} {x : Addr} {v : Value} (h : w.cell? x = some v) : x = ⟨x.block, x.off, none⟩ := by
  obtain ⟨b, off, sp⟩ := x
  cases sp with
  | none => rfl
  | some s =>
    simp [World.cell?] at h
    split at h <;> cases h
theorem mapM_fourS {f : Nat → Option Value} {cs : List Value} (h : (List.range 4).mapM f = some cs) : ∃ c0 c1 c2 c3, cs = [c0, c1, c2, c3] ∧ f 0 = some c0 ∧ f 1 = some c1 ∧ f 2 = some c2 ∧ f 3 = some c3 := by
  rw [show List.range 4 = [0, 1, 2, 3] from rfl] at h
  simp only [List.mapM_cons, List.mapM_nil, Option.bind_eq_bind, Option.pure_def] at h
  cases h0 : f 0 with
  | none => rw [h0] at h; simp at h
  | some c0 =>
    cases h1 : f 1 with
    | none => rw [h0, h1] at h; simp at h
    | some c1 =>
      cases h2 : f 2 with
      | none => rw [h0, h1, h2] at h; simp at h
      | some c2 =>
        cases h3 : f 3 with
        | none => rw [h0, h1, h2, h3] at h; simp at h
        | some c3 =>
          rw [h0, h1, h2, h3] at h
          simp at h
          exact ⟨c0, c1, c2, c3, h.symm, rfl, rfl, rfl, rfl⟩
theorem cells_fourS {W : World} {base : Nat} {a : Addr} {cs : List Value} (h : W.cells? base a 4 = some cs) : ∃ c0 c1 c2 c3, cs = [c0, c1, c2, c3] ∧ W.cell? (a.add 0) = some c0 ∧ W.cell? (a.add 1) = some c1 ∧ W.cell? (a.add 2) = some c2 ∧ W.cell? (a.add 3) = some c3 := by
  unfold World.cells? at h
  split at h
  · exact mapM_fourS h
  · cases h
end Go.Proofs.YtafdjjdmcnlddaaGreat

namespace Go.Proofs.YtafdjjdmcnlddaaGreat
set_option linter.unusedSimpArgs false
set_option linter.unusedVariables false
open Go.RowKit Go.Joins

theorem se_max {xs : List SeL} (h : ∀ x ∈ xs, x.r.size ≤ 1048576 ∧ x.s.size ≤ 1048576) : ∀ x ∈ xs, x.r.size ≤ maxLen := fun x hx => by have := (h x hx).1; unfold maxLen; omega
end Go.Proofs.YtafdjjdmcnlddaaGreat

namespace Go.Proofs.YtafdjjdmcnlddaaGreat
set_option linter.unusedSimpArgs false
set_option linter.unusedVariables false
open Go.RowKit

end Go.Proofs.YtafdjjdmcnlddaaGreat

namespace Go.Proofs.YtafdjjdmcnlddaaGreat
set_option linter.unusedSimpArgs false
set_option linter.unusedVariables false
open Go.RowKit Go.Joins

theorem joined_one9 (s : ByteArray) (w : World) (hs : s.size ≤ 2000000) :
    Calls Tryz.prog 45 #[.slice (some ⟨w.heap.size, 0, none⟩) 1 1] (w.alloc (.cells #[.string s] 9)) fun e w' => e = .returned (.string s) ∧ Below w.heap.size w w' := by
  have h := impl_joined w.heap.size 1 [s] (w.alloc (.cells #[.string s] 9)) (by simp) (fun j hj => by
    have hj0 : j = 0 := by simp at hj; omega
    subst hj0
    exact (Arr.fresh w 9 [.string s]).cell 0) (by simp) (by rw [flat_one, size_data]; omega)
  rw [flat_one] at h
  exact h.mono fun e w' ⟨he, hb⟩ => ⟨by rw [he]; rfl, below_one hb⟩
theorem joined_at9 (s : ByteArray) (w : World) (hs : s.size ≤ 2000000) (b : Nat) (hb : w.heap.size = b) :
    Calls Tryz.prog 45 #[.slice (some ⟨b, 0, none⟩) 1 1] (w.alloc (.cells #[.string s] 9)) fun e w' => e = .returned (.string s) ∧ Below w.heap.size w w' := by
  subst hb
  exact joined_one9 s w hs
theorem arr9_on {w w1 : World} {b t : Nat} {cs : List Value} (h : Arr w b t cs) (hb : Below w.heap.size w w1) : Arr w1 b t cs := (hb.block b (Array.getElem?_eq_some_iff.1 h).1).trans h
theorem arr9_cells {w : World} {b t : Nat} {a0 a1 a2 a3 : Value} (h : Arr w b t [a0, a1, a2, a3]) : (w.cell? ⟨b, 0, none⟩ = some a0 ∧ w.cell? ⟨b, 1, none⟩ = some a1 ∧ w.cell? ⟨b, 2, none⟩ = some a2 ∧ w.cell? ⟨b, 3, none⟩ = some a3) ∧
    w.frozen? ⟨b, 0, none⟩ = false ∧ w.frozen? ⟨b, 1, none⟩ = false ∧ w.frozen? ⟨b, 2, none⟩ = false ∧ w.frozen? ⟨b, 3, none⟩ = false := ⟨⟨h.cell 0, h.cell 1, h.cell 2, h.cell 3⟩, h.free 0, h.free 1, h.free 2, h.free 3⟩
/-- The two boxes of sessionCopy. -/
def Cp9 (w W : World) (x : SeL) : Prop := Arr W w.heap.size 40 [.string x.r, .bool x.o, .int .i64 x.p, .string x.s] ∧ Arr W (w.heap.size + 1) 40 [.string ⟨#[]⟩, .bool false, .int .i64 0, .string ⟨#[]⟩] ∧ Below w.heap.size w W
theorem Cp9.on {w W W2 : World} {x : SeL} (h : Cp9 w W x) (hb : Below W.heap.size W W2) : Cp9 w W2 x := ⟨arr9_on h.1 hb, arr9_on h.2.1 hb, h.2.2.trans (hb.mono h.2.2.size)⟩
theorem cp9_start (w : World) (x : SeL) : Cp9 w ((w.alloc (.cells #[.string x.r, .bool x.o, .int .i64 x.p, .string x.s] 40)).alloc (.cells #[.string ⟨#[]⟩, .bool false, .int .i64 0, .string ⟨#[]⟩] 40)) x := by
  have h2 := Arr.fresh (w.alloc (.cells #[.string x.r, .bool x.o, .int .i64 x.p, .string x.s] 40)) 40 [.string ⟨#[]⟩, .bool false, .int .i64 0, .string ⟨#[]⟩]
  rw [World.size_alloc] at h2
  exact ⟨arr9_on (Arr.fresh w 40 [.string x.r, .bool x.o, .int .i64 x.p, .string x.s]) ((Below.refl _ _).alloc (Nat.le_refl _) _), h2, ((Below.refl _ _).alloc (Nat.le_refl _) _).alloc (by simp) _⟩
theorem Cp9.put0 {w W : World} {x : SeL} (h : Cp9 w W x) : Cp9 w (W.setCell ⟨w.heap.size, 0, none⟩ (.string x.r)) x :=
  ⟨h.1.put 0 _, (heap_setCell_other W ⟨w.heap.size, 0, none⟩ (w.heap.size + 1) _ (by show w.heap.size + 1 ≠ w.heap.size; omega)).trans h.2.1, h.2.2.setCell (p := ⟨w.heap.size, 0, none⟩) (Nat.le_refl _) _⟩
theorem Cp9.put3 {w W : World} {x : SeL} (h : Cp9 w W x) : Cp9 w (W.setCell ⟨w.heap.size, 3, none⟩ (.string x.s)) x :=
  ⟨h.1.put 3 _, (heap_setCell_other W ⟨w.heap.size, 3, none⟩ (w.heap.size + 1) _ (by show w.heap.size + 1 ≠ w.heap.size; omega)).trans h.2.1, h.2.2.setCell (p := ⟨w.heap.size, 3, none⟩) (Nat.le_refl _) _⟩
set_option maxRecDepth 100000 in
set_option maxHeartbeats 1000000 in
theorem impl_secopy (x : SeL) (w : World) (hr : x.r.size ≤ 1048576) (hs : x.s.size ≤ 1048576) : Calls Tryz.prog 84 #[seV x] w fun e w' => e = .returned (seV x) ∧ Below w.heap.size w w' := by
  have HS := Lib.hid (cp9_start w x)
  have i1 := fun W => joined_at9 x.r W (by omega)
  have i2 := fun W => joined_at9 x.s W (by omega)
  unfold seV
  clear hr hs
  go_enter Tryz.func84, Tryz.ntmps84
  go_wp2_with (first
    | (go_at_call 45; have _ := HS1; go_fit (i2 _ _ (by simp)); rintro e w2 ⟨rfl, hb⟩; have HS2 := Lib.hid (HS1.out.put0.on hb); clear hb; obtain ⟨⟨c0, c1, c2, c3⟩, f0, f1, f2, f3⟩ := arr9_cells HS2.out.1; obtain ⟨⟨d0, d1, d2, d3⟩, e0, e1, e2, e3⟩ := arr9_cells HS2.out.2.1)
    | (go_at_call 45; go_fit (i1 _ _ (by simp)); rintro e w1 ⟨rfl, hb⟩; have HS1 := Lib.hid (HS.out.on hb); clear hb; obtain ⟨⟨c0, c1, c2, c3⟩, f0, f1, f2, f3⟩ := arr9_cells HS1.out.1))
  have hE : Arr _ (w.heap.size + 1) 40 [.string x.r, .bool x.o, .int .i64 x.p, .string x.s] := (((HS2.out.put3.2.1.put 0 (.string x.r)).put 1 (.bool x.o)).put 2 (.int .i64 x.p)).put 3 (.string x.s)
  exact bodyPost_ret (v := .agg #[.string x.r, .bool x.o, .int .i64 x.p, .string x.s]) (results_cell_row (P := Tryz.prog) Tryz.results84 _ _ (w.heap.size + 1) 40 _ (0, 0) _ rfl hE Tryz.underlying40 rfl (by kernel_rfl)) rfl
    ⟨rfl, (((HS2.out.put3.2.2.setCell (p := ⟨w.heap.size + 1, 0, none⟩) (Nat.le_succ _) _).setCell (p := ⟨w.heap.size + 1, 1, none⟩) (Nat.le_succ _) _).setCell (p := ⟨w.heap.size + 1, 2, none⟩) (Nat.le_succ _) _).setCell (p := ⟨w.heap.size + 1, 3, none⟩) (Nat.le_succ _) _⟩
theorem info_sec : (Tryz.prog.info? 40).map (fun i => (i.zero, i.size, i.bytes)) = some (some (.agg #[.string ⟨#[]⟩, .bool false, .int .i64 0, .string ⟨#[]⟩]), 4, 48) := by kernel_rfl
/-- append(v, y) within the capacity. -/
theorem app_fitS (w : World) {ops : Array Oper} {rest : List Oper} {o : Oper} {a : Act} {Q : Exit → Act → World → Prop} (hgd : o.guard = none) (s x : Operand)
    (ho : o.op = Op.call { callee := Callee.builtin Builtin.append, args := #[s, x], argTypes := #[23, 23] })
    (B g k cap : Nat) (xs : List SeL) (hs : a.eval s = .slice (some ⟨g, 0, none⟩) k cap) (hown : OwnC seC w B 40 4 (.slice (some ⟨g, 0, none⟩) k cap) xs) (hk : xs.length = k) (b : Nat) (y : SeL) (hx : a.eval x = .slice (some ⟨b, 0, none⟩) 1 1) (hA : Arr w b 40 (seC y)) (hfit : k + 1 ≤ cap)
    (h : ∀ w', OwnC seC w' B 40 4 (.slice (some ⟨g, 0, none⟩) (k + 1) cap) (xs ++ [y]) → w.grownBy w' (some g) → wpList Tryz.prog ops Q rest (a.put o.dst (.slice (some ⟨g, 0, none⟩) (k + 1) cap)) w') : wpList Tryz.prog ops Q (o :: rest) a w := by
  obtain ⟨i0, hi, hz0, hz1, hz2⟩ := info_parts info_sec
  subst hk
  refine wpList_append_fits w hgd s x 23 ho B 40 i0 4 Tryz.underlying23 hi hz1 g xs.length cap (xs.flatMap seC) hs hown ⟨b, 0, none⟩ 1 1 (seC y) hx (by rw [seC_len]) (fun j u hj => ?_) (seC_one y) hfit (fun w' h1 h2 => h w' ?_ h2)
  · rw [show (⟨b, 0, none⟩ : Addr).add j = ⟨b, j, none⟩ by unfold Addr.add; split <;> simp_all, hA.cell]
    exact hj
  · unfold OwnC
    rw [List.length_append, List.flatMap_append]
    simpa using h1
set_option maxRecDepth 100000 in
set_option maxHeartbeats 1000000 in
theorem impl_sescopy (xs : List SeL) (p : Option Addr) (c : Nat) (w : World) (hn : xs.length ≤ 1048576) (hw : ∀ x ∈ xs, x.r.size ≤ 1048576 ∧ x.s.size ≤ 1048576) (hR : RowC seC 4 w p xs) :
    Calls Tryz.prog 44 #[.slice p xs.length c] w fun e w' => (e = .returned (.slice (some ⟨w.heap.size, 0, none⟩) xs.length xs.length) ∧ OwnC seC w' w.heap.size 40 4 (.slice (some ⟨w.heap.size, 0, none⟩) xs.length xs.length) xs) ∧ Below w.heap.size w w' := by
  obtain ⟨n, hxn⟩ : ∃ n, xs.length = n := ⟨_, rfl⟩
  have HP := Lib.hid (fun W (h : Below w.heap.size w W) => hR.on h)
  have HW := Lib.hid hw
  have HN := Lib.hid hxn
  rw [hxn] at hn ⊢
  clear hR hw hxn
  obtain ⟨i0, hi, hz0, hz1, hz2⟩ := info_parts info_sec
  go_enter Tryz.func44, Tryz.ntmps44
  go_wp2_with (refine wpList_make_own _ rfl _ _ 23 rfl w.heap.size 40 i0 _ 4 Tryz.underlying23 hi hz0 hz1 .i64 .i64 _ n rfl rfl rfl (by rw [hz2]; omega) (by unfold maxLen; omega) (Nat.le_refl _) ?_; intro w1 ho1 hg1)
  have HV1 : Hid (OwnC seC w1 w.heap.size 40 4 (.slice (some ⟨w.heap.size, 0, none⟩) 0 n) []) := Lib.hid ho1
  have HB1 : Hid (Below w.heap.size w w1) := Lib.hid ((Below.refl _ _).grown hg1 (Nat.le_refl _) (fun k hk => by cases hk))
  clear ho1 hg1
  go_loopw [3, 10] (fun sq iq wr => ∃ k : Nat, k ≤ n ∧ iq = .int .i64 k ∧ sq = .slice (some ⟨w.heap.size, 0, none⟩) k n ∧ OwnC seC wr w.heap.size 40 4 (.slice (some ⟨w.heap.size, 0, none⟩) k n) (xs.take k) ∧ Below w.heap.size w wr) (fun _ i _ => n - (intOf i).toNat)
  case atStart => exact ⟨0, Nat.zero_le _, rfl, rfl, HV1.out, HB1.out⟩
  case round =>
    obtain ⟨k, hk, rfl, rfl, hv, hb⟩ := hrel
    have HV := Lib.hid hv
    have HB := Lib.hid hb
    clear hv
    by_cases hlt : k < n
    · have hlt1 : k < xs.length := by rw [HN.out]; exact hlt
      obtain ⟨g, rfl, hg, a0, a1, a2, a3⟩ := row_se4 (HP.out _ hb) hlt1
      have hxw := HW.out _ (List.getElem_mem hlt1)
      obtain ⟨x, hx⟩ : ∃ x, xs[k] = x := ⟨_, rfl⟩
      rw [hx] at a0 a1 a2 a3 hxw
      have i3 := fun W => impl_secopy x W hxw.1 hxw.2
      unfold seV at i3
      have HT : Hid (xs.take (k + 1) = xs.take k ++ [x]) := Lib.hid (by rw [List.take_succ_eq_append_getElem hlt1, hx])
      have HL : Hid ((xs.take k).length = k) := Lib.hid (by rw [List.length_take]; omega)
      clear hb hx hxw
      go_wp2_with (first
        | (at_builtin; have _ := HV2; refine app_fitS _ rfl _ _ rfl w.heap.size w.heap.size k n _ rfl (HV2.out.alloc _) HL.out w2.heap.size x rfl (Arr.fresh w2 40 (seC x)) (by omega) ?_; intro w3 hv3 hg3; have HV3 := Lib.hid hv3; have HG3 := Lib.hid hg3; clear hv3 hg3)
        | (go_at_call 84; go_fit (i3 _); rintro e w2 ⟨rfl, hb2⟩; have HV2 := Lib.hid (HV.out.on hb2); have HB2 := Lib.hid (HB.out.trans (hb2.mono HB.out.size)); clear hb2))
      go_roundw
      case rel => exact ⟨k + 1, by omega, by go_num, rfl, by rw [HT.out]; exact HV3.out, (HB2.out.alloc HB2.out.size _).grown HG3.out (HB2.out.alloc HB2.out.size _).size (fun k hk => by injection hk with hk; omega)⟩
      case measure => simp [intOf]; omega
    · obtain rfl : k = n := by omega
      have HT : Hid (xs.take k = xs) := Lib.hid (List.take_of_length_le (by rw [HN.out]; exact Nat.le_refl _))
      clear hb
      go_wp2
      go_ret
      exact ⟨⟨rfl, by have := HV.out; rw [HT.out] at this; exact this⟩, HB.out⟩
end Go.Proofs.YtafdjjdmcnlddaaGreat

namespace Go.Proofs.YtafdjjdmcnlddaaGreat
set_option linter.unusedSimpArgs false
set_option linter.unusedVariables false
open Go.RowKit Go.Joins

/-- The answer R, in memory of the call's own. -/
def SoIs (B : Nat) (R : SoL) (e : Ending) (W : World) : Prop := ∃ p k, e = .returned (.agg #[.slice p R.l.length k, .int .i64 R.c]) ∧ OwnC seC W B 40 4 (.slice p R.l.length k) R.l
theorem so_ill (B : Nat) (c : Int) (W : World) : SoIs B (illS c) (.returned (.agg #[.slice none 0 0, .int .i64 c])) W := ⟨none, 0, rfl, ownC_nil _ _ _ _ _⟩
theorem here_lt {xs : List SeL} {r : ByteArray} (h : hereB r xs = true) : posS r xs < xs.length := by
  rcases Nat.lt_or_ge (posS r xs) xs.length with h1 | h1
  · exact h1
  · rw [here_end (by omega)] at h; cases h
/-- The boxes of withSession. -/
def Wt9 (w W : World) (y : SeL) : Prop := Arr W w.heap.size 40 [.string y.r, .bool y.o, .int .i64 y.p, .string y.s] ∧ Arr W (w.heap.size + 1) 105 [.slice none 0 0, .int .i64 0] ∧ Below w.heap.size w W
theorem Wt9.on {w W W2 : World} {y : SeL} (h : Wt9 w W y) (hb : Below W.heap.size W W2) : Wt9 w W2 y := ⟨arr9_on h.1 hb, arr9_on h.2.1 hb, h.2.2.trans (hb.mono h.2.2.size)⟩
theorem wt9_start (w : World) (y : SeL) : Wt9 w ((w.alloc (.cells #[.string y.r, .bool y.o, .int .i64 y.p, .string y.s] 40)).alloc (.cells #[.slice none 0 0, .int .i64 0] 105)) y := by
  have h2 := Arr.fresh (w.alloc (.cells #[.string y.r, .bool y.o, .int .i64 y.p, .string y.s] 40)) 105 [.slice none 0 0, .int .i64 0]
  rw [World.size_alloc] at h2
  exact ⟨arr9_on (Arr.fresh w 40 [.string y.r, .bool y.o, .int .i64 y.p, .string y.s]) ((Below.refl _ _).alloc (Nat.le_refl _) _), h2, ((Below.refl _ _).alloc (Nat.le_refl _) _).alloc (by simp) _⟩
theorem arr9_two {w : World} {b t : Nat} {a0 a1 : Value} (h : Arr w b t [a0, a1]) : (w.cell? ⟨b, 0, none⟩ = some a0 ∧ w.cell? ⟨b, 1, none⟩ = some a1) ∧ w.frozen? ⟨b, 0, none⟩ = false ∧ w.frozen? ⟨b, 1, none⟩ = false := ⟨⟨h.cell 0, h.cell 1⟩, h.free 0, h.free 1⟩
theorem arr9_lt {w : World} {b t : Nat} {cs : List Value} (h : Arr w b t cs) : b < w.heap.size := (Array.getElem?_eq_some_iff.1 h).1
theorem flat_set9 {u : Value} {y : SeL} : ∀ (xs : List SeL) (i j : Nat) (hi : i < xs.length), j < 4 → seC y = (seC xs[i]).set j u → (xs.set i y).flatMap seC = (xs.flatMap seC).set (i * 4 + j) u
  | x :: xs, 0, j, hi, hj, h => by
    rw [List.set_cons_zero, List.flatMap_cons, List.flatMap_cons, Nat.zero_mul, Nat.zero_add, List.set_append_left _ _ (by rw [seC_len]; exact hj)]
    rw [show seC y = (seC x).set j u from h]
  | x :: xs, i + 1, j, hi, hj, h => by
    rw [List.set_cons_succ, List.flatMap_cons, List.flatMap_cons, List.set_append_right _ _ (by rw [seC_len, Nat.add_mul, Nat.one_mul]; omega), seC_len, show (i + 1) * 4 + j - 4 = i * 4 + j by rw [Nat.add_mul, Nat.one_mul]; omega]
    rw [flat_set9 xs i j (by simpa using hi) hj (by simpa using h)]
theorem own_set9 {w : World} {B e g n c : Nat} {xs : List SeL} (h : OwnC seC w B e 4 (.slice (some ⟨g, 0, none⟩) n c) xs) (i j : Nat) (hi : i < xs.length) (hj : j < 4) {u : Value} {y : SeL} (hy : seC y = (seC xs[i]).set j u) :
    OwnC seC (w.setCell ⟨g, i * 4 + j, none⟩ u) B e 4 (.slice (some ⟨g, 0, none⟩) n c) (xs.set i y) := by
  refine ⟨by rw [List.length_set, flat_set9 xs i j hi hj hy, List.length_set]; exact h.1, ?_⟩
  rcases h.2 with ⟨h0, _⟩ | ⟨g', c', cur, h1, h2, h3, h4, h5, h6, h7⟩
  · cases h0
  · injection h1 with e1 e2 e3
    injection e1 with e1
    injection e1 with e1
    subst e1 e3
    have hA : Arr w g e cur.toList := by unfold Arr; simpa using h3
    have hA2 := hA.put (i * 4 + j) u
    refine .inr ⟨g, c, (cur.toList.set (i * 4 + j) u).toArray, by rw [List.length_set, ← e2], h2, hA2, by rw [List.length_set]; exact h4, h5, by simpa using h6, ?_⟩
    rw [List.length_set, flat_set9 xs i j hi hj hy, ← h7, List.take_set]
/-- An element is stored. -/
def put9 (W : World) (g i : Nat) (y : SeL) : World := (((W.setCell ⟨g, i * 4, none⟩ (.string y.r)).setCell ⟨g, i * 4 + 1, none⟩ (.bool y.o)).setCell ⟨g, i * 4 + 2, none⟩ (.int .i64 y.p)).setCell ⟨g, i * 4 + 3, none⟩ (.string y.s)
theorem own_put9 {w : World} {B e g n c : Nat} {xs : List SeL} (h : OwnC seC w B e 4 (.slice (some ⟨g, 0, none⟩) n c) xs) (i : Nat) (hi : i < xs.length) (y : SeL) : OwnC seC (put9 w g i y) B e 4 (.slice (some ⟨g, 0, none⟩) n c) (xs.set i y) := by
  have h1 := own_set9 h i 0 hi (by decide) (u := .string y.r) (y := ⟨y.r, xs[i].o, xs[i].p, xs[i].s⟩) rfl
  have h2 := own_set9 h1 i 1 (by rw [List.length_set]; exact hi) (by decide) (u := .bool y.o) (y := ⟨y.r, y.o, xs[i].p, xs[i].s⟩) (by rw [List.getElem_set_self]; rfl)
  rw [List.set_set] at h2
  have h3 := own_set9 h2 i 2 (by rw [List.length_set]; exact hi) (by decide) (u := .int .i64 y.p) (y := ⟨y.r, y.o, y.p, xs[i].s⟩) (by rw [List.getElem_set_self]; rfl)
  rw [List.set_set] at h3
  have h4 := own_set9 h3 i 3 (by rw [List.length_set]; exact hi) (by decide) (u := .string y.s) (y := y) (by rw [List.getElem_set_self]; rfl)
  rw [List.set_set] at h4
  exact h4
theorem own_free9 {w : World} {B e g n c : Nat} {xs : List SeL} (h : OwnC seC w B e 4 (.slice (some ⟨g, 0, none⟩) n c) xs) (i : Nat) (hi : i < xs.length) :
    (w.cell? ⟨g, i * 4, none⟩ = some (.string xs[i].r) ∧ w.cell? ⟨g, i * 4 + 1, none⟩ = some (.bool xs[i].o) ∧ w.cell? ⟨g, i * 4 + 2, none⟩ = some (.int .i64 xs[i].p) ∧ w.cell? ⟨g, i * 4 + 3, none⟩ = some (.string xs[i].s)) ∧
    w.frozen? ⟨g, i * 4, none⟩ = false ∧ w.frozen? ⟨g, i * 4 + 1, none⟩ = false ∧ w.frozen? ⟨g, i * 4 + 2, none⟩ = false ∧ w.frozen? ⟨g, i * 4 + 3, none⟩ = false := by
  have hn : n = xs.length := by
    rcases h.2 with ⟨h0, _⟩ | ⟨g', cap', cur, h1, _⟩
    · cases h0
    · injection h1 with _ h2 _
  subst hn
  have h' : w.ownsRow B e 4 (.slice (some ⟨g, 0, none⟩) xs.length c) xs.length (xs.flatMap seC) := h
  exact ⟨⟨OwnC.cell seC_len h i 0 hi (by decide), OwnC.cell seC_len h i 1 hi (by decide), OwnC.cell seC_len h i 2 hi (by decide), OwnC.cell seC_len h i 3 hi (by decide)⟩, h'.frozenAt _, h'.frozenAt _, h'.frozenAt _, h'.frozenAt _⟩
theorem Wt9.put {w W : World} {y : SeL} (h : Wt9 w W y) {g : Nat} (hg : w.heap.size + 2 ≤ g) (i : Nat) (z : SeL) : Wt9 w (put9 W g i z) y := by
  have one : ∀ (W : World) (j : Nat) (u : Value), Wt9 w W y → Wt9 w (W.setCell ⟨g, j, none⟩ u) y := fun W j u h =>
    ⟨(heap_setCell_other W ⟨g, j, none⟩ w.heap.size u (by show w.heap.size ≠ g; omega)).trans h.1, (heap_setCell_other W ⟨g, j, none⟩ (w.heap.size + 1) u (by show w.heap.size + 1 ≠ g; omega)).trans h.2.1, h.2.2.setCell (p := ⟨g, j, none⟩) (by show w.heap.size ≤ g; omega) _⟩
  exact one _ _ _ (one _ _ _ (one _ _ _ (one _ _ _ h)))
/-- An answer is passed on: the caller's box. -/
theorem pass9 {w W W2 : World} {b : Nat} {R : SoL} {p : Option Addr} {k B : Nat} (hA : Arr W b 105 [.slice none 0 0, .int .i64 0]) (hb : Below w.heap.size w W) (hB : w.heap.size ≤ b) (hbB : b < B) (ho : OwnC seC W B 40 4 (.slice p R.l.length k) R.l) :
    Arr ((W.setCell ⟨b, 0, none⟩ (.slice p R.l.length k)).setCell ⟨b, 1, none⟩ (.int .i64 R.c)) b 105 [.slice p R.l.length k, .int .i64 R.c] ∧ OwnC seC ((W.setCell ⟨b, 0, none⟩ (.slice p R.l.length k)).setCell ⟨b, 1, none⟩ (.int .i64 R.c)) w.heap.size 40 4 (.slice p R.l.length k) R.l ∧ Below w.heap.size w ((W.setCell ⟨b, 0, none⟩ (.slice p R.l.length k)).setCell ⟨b, 1, none⟩ (.int .i64 R.c)) :=
  ⟨(hA.put 0 _).put 1 _, ((ho.low (a := ⟨b, 0, none⟩) hbB _).low (a := ⟨b, 1, none⟩) hbB _).mono (by omega), (hb.setCell (p := ⟨b, 0, none⟩) hB _).setCell (p := ⟨b, 1, none⟩) hB _⟩
end Go.Proofs.YtafdjjdmcnlddaaGreat

namespace Go.Proofs.YtafdjjdmcnlddaaGreat
set_option linter.unusedSimpArgs false
set_option linter.unusedVariables false
open Go.RowKit

/-- The first m cells of L are the marks from k on. -/
def Marked (f : Nat → Nat → Value) (k : Nat) (L : List Value) (m : Nat) : Prop := ∀ q, q < m → L[q]? = some (f q (k + q))
theorem Marked.step {f : Nat → Nat → Value} {k : Nat} {L : List Value} {m : Nat} (h : Marked f k L m) (hm : m < L.length) {u : Value} (hu : u = f m (k + m)) : Marked f k (L.set m u) (m + 1) := by
  intro q hq
  by_cases e : q = m
  · subst e
    rw [List.getElem?_set_self hm, hu]
  · rw [List.getElem?_set_ne (by omega)]
    exact h q (by omega)
/-- All blocks but g are as they were. -/
def Keep (g : Nat) (w W : World) : Prop := w.heap.size ≤ W.heap.size ∧ ∀ k, k < w.heap.size → k ≠ g → W.heap[k]? = w.heap[k]?
theorem Keep.refl (g : Nat) (w : World) : Keep g w w := ⟨Nat.le_refl _, fun _ _ _ => rfl⟩
theorem Keep.on {g : Nat} {w W W2 : World} (h : Keep g w W) (hb : Below W.heap.size W W2) : Keep g w W2 := ⟨Nat.le_trans h.1 hb.size, fun k hk hne => (hb.block k (Nat.lt_of_lt_of_le hk h.1)).trans (h.2 k hk hne)⟩
theorem Keep.put {g : Nat} {w W : World} (h : Keep g w W) (i : Nat) (u : Value) : Keep g w (W.setCell ⟨g, i, none⟩ u) := ⟨by simpa [World.setCell] using h.1, fun k hk hne => (heap_setCell_other W ⟨g, i, none⟩ k u hne).trans (h.2 k hk hne)⟩
theorem Keep.arr {g b t : Nat} {cs : List Value} {w W : World} (h : Keep g w W) (hA : Arr w b t cs) (hne : b ≠ g) : Arr W b t cs := (h.2 b (Array.getElem?_eq_some_iff.1 hA).1 hne).trans hA
theorem Keep.own {α : Type} {enc : α → List Value} {g B e size : Nat} {v : Value} {xs : List α} {w W : World} (h : Keep g w W) (ho : OwnC enc w B e size v xs) (hne : ∀ k, v.ownBlock = some k → k ≠ g) : OwnC enc W B e size v xs := by
  refine ⟨ho.1, ?_⟩
  rcases ho.2 with h0 | ⟨b, cap, cur, h1, h2, h3, h4⟩
  · exact .inl h0
  · refine .inr ⟨b, cap, cur, h1, h2, (h.2 b (Array.getElem?_eq_some_iff.1 h3).1 (hne b ?_)).trans h3, h4⟩
    rw [h1]
    rfl
/-- The slice v is a row of n elements of size cells each; so many cells are marked so far; below B the world is as w, and so is every block but the row's. -/
def MRow (f : Nat → Nat → Value) (k : Nat) (w : World) (B e size g n cap : Nat) (W : World) (m : Nat) : Prop := (∃ L, W.ownsRow B e size (.slice (some ⟨g, 0, none⟩) n cap) n L ∧ Marked f k L m) ∧ Below B w W ∧ B ≤ w.heap.size ∧ Keep g w W
theorem MRow.on {f : Nat → Nat → Value} {k B e size g n cap m : Nat} {w W W2 : World} (h : MRow f k w B e size g n cap W m) (hb : Below W.heap.size W W2) : MRow f k w B e size g n cap W2 m := by
  obtain ⟨⟨L, h1, h2⟩, h3, h4, h5⟩ := h
  exact ⟨⟨L, ownsRow_on h1 hb, h2⟩, h3.trans (hb.mono (Nat.le_trans h4 h3.size)), h4, h5.on hb⟩
theorem MRow.put {f : Nat → Nat → Value} {k B e size g n cap m : Nat} {w W : World} (h : MRow f k w B e size g n cap W m) (hm : m < n * size) {u : Value} (hu : u = f m (k + m)) : MRow f k w B e size g n cap (W.setCell ⟨g, m, none⟩ u) (m + 1) := by
  obtain ⟨⟨L, h1, h2⟩, h3, h4, h5⟩ := h
  exact ⟨⟨L.set m u, (h1.stored m u).1, h2.step (by rw [h1.1]; exact hm) hu⟩, h3.setCell (p := ⟨g, m, none⟩) (h1.lt g rfl).1 u, h4, h5.put m u⟩
theorem MRow.there {f : Nat → Nat → Value} {k B e size g n cap m : Nat} {w W : World} (h : MRow f k w B e size g n cap W m) {q : Nat} (hq : q < n * size) : (∃ u, W.cell? ⟨g, q, none⟩ = some u) ∧ W.frozen? ⟨g, q, none⟩ = false := by
  obtain ⟨⟨L, h1, h2⟩, _⟩ := h
  refine ⟨?_, h1.frozenAt q⟩
  rw [h1.cellAt q hq]
  exact ⟨L[q]'(by rw [h1.1]; exact hq), List.getElem?_eq_getElem _⟩
theorem MRow.cell {f : Nat → Nat → Value} {k B e size g n cap m : Nat} {w W : World} (h : MRow f k w B e size g n cap W m) {q : Nat} (hq : q < n * size) (hm : q < m) : W.cell? ⟨g, q, none⟩ = some (f q (k + q)) := by
  obtain ⟨⟨L, h1, h2⟩, _⟩ := h
  rw [h1.cellAt q hq]
  exact h2 q hm
theorem MRow.lt {f : Nat → Nat → Value} {k B e size g n cap m : Nat} {w W : World} (h : MRow f k w B e size g n cap W m) : B ≤ g ∧ g < W.heap.size := by
  obtain ⟨⟨L, h1, h2⟩, _⟩ := h
  exact h1.lt g rfl
/-- The slice v of n elements is marked from k on. -/
def MOwn (f : Nat → Nat → Value) (k : Nat) (B e size : Nat) (v : Value) (n : Nat) (W : World) : Prop := ∃ p cap, v = .slice p n cap ∧ (n = 0 ∨ ∃ g w, p = some ⟨g, 0, none⟩ ∧ MRow f k w B e size g n cap W (n * size))
theorem MOwn.on {f : Nat → Nat → Value} {k B e size n : Nat} {v : Value} {W W2 : World} (h : MOwn f k B e size v n W) (hb : Below W.heap.size W W2) : MOwn f k B e size v n W2 := by
  obtain ⟨p, cap, h1, h2⟩ := h
  refine ⟨p, cap, h1, ?_⟩
  rcases h2 with h0 | ⟨g, w, hp, hM⟩
  · exact .inl h0
  · exact .inr ⟨g, w, hp, hM.on hb⟩
/-- What marking leaves as it was. -/
def MFrame (B : Nat) (v : Value) (w W : World) : Prop := Below B w W ∧ w.heap.size ≤ W.heap.size ∧ ∀ k, k < w.heap.size → (∀ g, v.ownBlock = some g → k ≠ g) → W.heap[k]? = w.heap[k]?
theorem MFrame.arr {B b t : Nat} {v : Value} {cs : List Value} {w W : World} (h : MFrame B v w W) (hA : Arr w b t cs) (hne : ∀ g, v.ownBlock = some g → b ≠ g) : Arr W b t cs := (h.2.2 b (Array.getElem?_eq_some_iff.1 hA).1 hne).trans hA
end Go.Proofs.YtafdjjdmcnlddaaGreat

namespace Go.Proofs.YtafdjjdmcnlddaaGreat
set_option linter.unusedSimpArgs false
set_option linter.unusedVariables false
open Go.RowKit Go.Maps

end Go.Proofs.YtafdjjdmcnlddaaGreat

namespace Go.Proofs.YtafdjjdmcnlddaaGreat
set_option linter.unusedSimpArgs false
set_option linter.unusedVariables false

end Go.Proofs.YtafdjjdmcnlddaaGreat

namespace Go.Proofs.YtafdjjdmcnlddaaGreat
set_option linter.unusedSimpArgs false
set_option linter.unusedVariables false

end Go.Proofs.YtafdjjdmcnlddaaGreat

namespace Go.Proofs.YtafdjjdmcnlddaaGreat
set_option linter.unusedSimpArgs false
set_option linter.unusedVariables false
open Go.RowKit

/-- A row of bytes that the call has made. -/
def OwnR (w : World) (B : Nat) (v : Value) (l : List UInt8) : Prop := w.ownsRow B 5 1 v l.length (l.map byteV)
theorem OwnR.alloc {w : World} {B : Nat} {v : Value} {l : List UInt8} (h : OwnR w B v l) (o : Obj) : OwnR (w.alloc o) B v l := World.ownsRow.alloc h o
theorem OwnR.str {w : World} {B : Nat} {v : Value} {l : List UInt8} (h : OwnR w B v l) : (convert 22 9 v).run Tryz.prog w = .ok (.string (strOf l)) w :=
  run_string_own (P := Tryz.prog) w 22 9 5 _ _ _ _ h Tryz.underlying22 Tryz.underlying5 Tryz.underlying9
end Go.Proofs.YtafdjjdmcnlddaaGreat

namespace Go.Proofs.YtafdjjdmcnlddaaGreat
set_option linter.unusedSimpArgs false
set_option linter.unusedVariables false
open Go.RowKit

/-- The digits of a number; none of nought. -/
def dgL (m : Nat) : List UInt8 := if m = 0 then [] else Lib.decDigits m
end Go.Proofs.YtafdjjdmcnlddaaGreat

namespace Go.Proofs.YtafdjjdmcnlddaaGreat
set_option linter.unusedSimpArgs false
set_option linter.unusedVariables false
open Go.RowKit

/-- The mark of a number. -/
def mkT (k : Nat) : ByteArray := strOf (109 :: dgL k)
end Go.Proofs.YtafdjjdmcnlddaaGreat

namespace Go.Proofs.YtafdjjdmcnlddaaGreat
set_option linter.unusedSimpArgs false
set_option linter.unusedVariables false
open Go.RowKit

end Go.Proofs.YtafdjjdmcnlddaaGreat

namespace Go.Proofs.YtafdjjdmcnlddaaGreat
set_option linter.unusedSimpArgs false
set_option linter.unusedVariables false
open Go.RowKit

def mk_se (q k : Nat) : Value := if q % 4 = 2 then .int .i64 (k : Int) else if q % 4 = 1 then .bool (decide (k % 3 = 0)) else .string (mkT k)
end Go.Proofs.YtafdjjdmcnlddaaGreat

namespace Go.Proofs.YtafdjjdmcnlddaaGreat
set_option linter.unusedSimpArgs false
set_option linter.unusedVariables false
open Go.RowKit Go.Joins

def soC (R : SoL) (p : Option Addr) (k : Nat) : List Value := [.slice p R.l.length k, .int .i64 R.c]
/-- An answer in a box of the law's. -/
def OutS (b B : Nat) (W : World) (R : SoL) (p : Option Addr) (k : Nat) : Prop := Arr W b 105 (soC R p k) ∧ OwnC seC W B 40 4 (.slice p R.l.length k) R.l
theorem OutS.on {b B : Nat} {W W2 : World} {R : SoL} {p : Option Addr} {k : Nat} (h : OutS b B W R p k) (hb : Below W.heap.size W W2) : OutS b B W2 R p k := ⟨arr9_on h.1 hb, h.2.on hb⟩
theorem OutS.new {B : Nat} {W : World} {R : SoL} {p : Option Addr} {k : Nat} (h : OwnC seC W B 40 4 (.slice p R.l.length k) R.l) : OutS W.heap.size B (W.alloc (.cells (soC R p k).toArray 105)) R p k := ⟨Arr.fresh W _ _, h.alloc _⟩
theorem OutS.two {b B : Nat} {W : World} {R : SoL} {p : Option Addr} {k : Nat} (h : OutS b B W R p k) : (W.cell? ⟨b, 0, none⟩ = some (.slice p R.l.length k) ∧ W.cell? ⟨b, 1, none⟩ = some (.int .i64 R.c)) ∧ b < W.heap.size := ⟨(arr9_two h.1).1, arr9_lt h.1⟩
theorem mown_frame {α : Type} {enc : α → List Value} {B B2 e size : Nat} {v u : Value} {xs : List α} {w W : World} (h : MFrame B v w W) (ho : OwnC enc w B2 e size u xs) (hne : ∀ a b, v.ownBlock = some a → u.ownBlock = some b → b ≠ a) : OwnC enc W B2 e size u xs := by
  refine ⟨ho.1, ?_⟩
  rcases ho.2 with h0 | ⟨g, cap, cur, h1, h2, h3, h4⟩
  · exact .inl h0
  · refine .inr ⟨g, cap, cur, h1, h2, (h.2.2 g (Array.getElem?_eq_some_iff.1 h3).1 (fun a ha => hne a g ha (by rw [h1]; rfl))).trans h3, h4⟩
/-- A row of sessions is no box of an answer. -/
theorem own_neS {w : World} {B b : Nat} {v : Value} {xs : List SeL} {cs : List Value} (h : OwnC seC w B 40 4 v xs) (hA : Arr w b 105 cs) : ∀ g, v.ownBlock = some g → b ≠ g := by
  intro g hg e
  subst e
  rcases h.2 with ⟨h0, _⟩ | ⟨g', cap, cur, h1, h2, h3, h4⟩
  · rw [h0] at hg; cases hg
  · rw [h1] at hg
    injection hg with hg
    have hg : g' = b := hg
    subst hg
    unfold Arr at hA
    rw [h3] at hA
    injection hA with hA
    injection hA with _ hA
    cases hA
/-- Another row is marked. -/
theorem OutS.mark {b B B2 B3 : Nat} {W W2 : World} {R : SoL} {p : Option Addr} {k : Nat} {v : Value} {xs : List SeL} (h : OutS b B W R p k) (hF : MFrame B3 v W W2) (hv : OwnC seC W B2 40 4 v xs)
    (hne : ∀ a g, v.ownBlock = some a → (Value.slice p R.l.length k).ownBlock = some g → g ≠ a) : OutS b B W2 R p k := ⟨hF.arr h.1 (own_neS hv h.1), mown_frame hF h.2 hne⟩
end Go.Proofs.YtafdjjdmcnlddaaGreat

namespace Go.Proofs.YtafdjjdmcnlddaaGreat
set_option linter.unusedSimpArgs false
set_option linter.unusedVariables false
open Go.RowKit

def strC (s : ByteArray) : List Value := [.string s]
theorem strC_len (s : ByteArray) : (strC s).length = 1 := rfl
def mk_ss (q k : Nat) : Value := .string (mkT k)
end Go.Proofs.YtafdjjdmcnlddaaGreat

namespace Go.Proofs.YtafdjjdmcnlddaaGreat
set_option linter.unusedSimpArgs false
set_option linter.unusedVariables false
open Go.RowKit Go.Joins

set_option maxRecDepth 100000 in
set_option maxHeartbeats 2000000 in
theorem lw_texts (xs : List ByteArray) (p q : Option Addr) (c d : Nat) (w : World) (hn : xs.length ≤ 2000000) (hp : RowC strC 1 w p xs) (hq : RowC strC 1 w q xs) :
    Calls Tryz.prog 18 #[.slice p xs.length c, .slice q xs.length d] w fun e w' => e = .returned (.bool true) ∧ Below w.heap.size w w' := by
  obtain ⟨n, hxn⟩ : ∃ n, xs.length = n := ⟨_, rfl⟩
  have HP := Lib.hid (fun W (h : Below w.heap.size w W) => hp.on h)
  have HQ := Lib.hid (fun W (h : Below w.heap.size w W) => hq.on h)
  have HN := Lib.hid hxn
  rw [hxn] at hn ⊢
  clear hp hq hxn
  go_enter Tryz.func18, Tryz.ntmps18
  go_wp2
  go_loopw [5] (fun iq wr => ∃ i : Nat, i ≤ n ∧ iq = .int .i64 i ∧ Below w.heap.size w wr) (fun i _ => n - (intOf i).toNat)
  case atStart => exact ⟨0, Nat.zero_le _, rfl, Below.refl _ _⟩
  case round =>
    obtain ⟨i, hi, rfl, hb⟩ := hrel
    have HB := Lib.hid hb
    by_cases hlt : i < n
    · have hlt1 : i < xs.length := by rw [HN.out]; exact hlt
      obtain ⟨a, rfl, ha, hc⟩ := HP.out _ hb (List.ne_nil_of_length_pos (by omega))
      obtain ⟨b, rfl, hb0, hd⟩ := HQ.out _ hb (List.ne_nil_of_length_pos (by omega))
      have c0 := hc i hlt1 0 (by decide)
      have d0 := hd i hlt1 0 (by decide)
      obtain ⟨x, hx⟩ : ∃ x, xs[i] = x := ⟨_, rfl⟩
      rw [hx, Nat.mul_one, Nat.add_zero] at c0 d0
      replace c0 : wr.cell? ⟨a, i, none⟩ = some (.string x) := c0
      replace d0 : wr.cell? ⟨b, i, none⟩ = some (.string x) := d0
      clear hc hd hx hb
      go_wp2
      go_region
      all_goals (try go_wp2)
      exact ⟨⟨i + 1, by omega, by go_num, HB.out.drew⟩, by simp [intOf]; omega⟩
    · obtain rfl : i = n := by omega
      clear hb
      go_wp2
      go_ret
      exact ⟨rfl, HB.out⟩
end Go.Proofs.YtafdjjdmcnlddaaGreat

namespace Go.Proofs.YtafdjjdmcnlddaaGreat
set_option linter.unusedSimpArgs false
set_option linter.unusedVariables false
open Go.RowKit Go.Joins

set_option maxRecDepth 100000 in
set_option maxHeartbeats 2000000 in
theorem lw_sess (xs : List SeL) (p q : Option Addr) (c d : Nat) (w : World) (hn : xs.length ≤ 2000000) (hp : RowC seC 4 w p xs) (hq : RowC seC 4 w q xs) :
    Calls Tryz.prog 13 #[.slice p xs.length c, .slice q xs.length d] w fun e w' => e = .returned (.bool true) ∧ Below w.heap.size w w' := by
  obtain ⟨n, hxn⟩ : ∃ n, xs.length = n := ⟨_, rfl⟩
  have HP := Lib.hid (fun W (h : Below w.heap.size w W) => hp.on h)
  have HQ := Lib.hid (fun W (h : Below w.heap.size w W) => hq.on h)
  have HN := Lib.hid hxn
  rw [hxn] at hn ⊢
  clear hp hq hxn
  go_enter Tryz.func13, Tryz.ntmps13
  go_wp2
  go_loopw [5] (fun iq wr => ∃ i : Nat, i ≤ n ∧ iq = .int .i64 i ∧ Below w.heap.size w wr) (fun i _ => n - (intOf i).toNat)
  case atStart => exact ⟨0, Nat.zero_le _, rfl, Below.refl _ _⟩
  case round =>
    obtain ⟨i, hi, rfl, hb⟩ := hrel
    have HB := Lib.hid hb
    by_cases hlt : i < n
    · have hlt1 : i < xs.length := by rw [HN.out]; exact hlt
      obtain ⟨a, rfl, ha, a0, a1, a2, a3⟩ := row_se4 (HP.out _ hb) hlt1
      obtain ⟨b, rfl, hb0, b0, b1, b2, b3⟩ := row_se4 (HQ.out _ hb) hlt1
      obtain ⟨x, hx⟩ : ∃ x, xs[i] = x := ⟨_, rfl⟩
      rw [hx] at a0 a1 a2 a3 b0 b1 b2 b3
      clear hx hb
      go_wp2
      go_region
      all_goals (try go_wp2)
      exact ⟨⟨i + 1, by omega, by go_num, HB.out.drew⟩, by simp [intOf]; omega⟩
    · obtain rfl : i = n := by omega
      clear hb
      go_wp2
      go_ret
      exact ⟨rfl, HB.out⟩
end Go.Proofs.YtafdjjdmcnlddaaGreat

namespace Go.Proofs.YtafdjjdmcnlddaaGreat
set_option linter.unusedSimpArgs false
set_option linter.unusedVariables false
open Go.RowKit Go.Joins

theorem row_own9 {W : World} {B : Nat} {p : Option Addr} {k n : Nat} {xs : List SeL} (h : OwnC seC W B 40 4 (.slice p n k) xs) : RowC seC 4 W p xs := by
  obtain ⟨p', k', e, hR⟩ := h.row seC_len
  injection e with e1 e2 e3
  rw [e1]
  exact hR
theorem one_all9 (xs : List SeL) : ∀ u ∈ xs.flatMap seC, u.oneCell' = true := by
  intro u hu
  obtain ⟨x, _, hx⟩ := List.mem_flatMap.1 hu
  exact seC_one x u hx
theorem empty_row9 (W : World) : OwnC seC (W.alloc (.cells #[] 40)) W.heap.size 40 4 (.slice (some ⟨W.heap.size, 0, none⟩) 0 0) [] :=
  World.ownsRow_lit W #[] 0 (Nat.le_refl _) (Nat.zero_le _) rfl
/-- append(v, row...). -/
theorem wp_app_row9 {o : Oper} {a : Act} {w : World} {K : Act → World → Prop} {Q : Exit → Act → World → Prop} (s x : Operand)
    (ho : o.op = .call { callee := .builtin .append, args := #[s, x], argTypes := #[23, 23] })
    (B : Nat) (v : Value) (ys : List SeL) (hs : a.eval s = v) (hown : OwnC seC w B 40 4 v ys) (B2 : Nat) (p : Option Addr) (n c : Nat) (xs : List SeL) (hx : a.eval x = .slice p n c) (hrow : OwnC seC w B2 40 4 (.slice p n c) xs)
    (hlen : ys.length + xs.length ≤ 2000000) (hB : B ≤ w.heap.size) (h : ∀ v' w', OwnC seC w' B 40 4 v' (ys ++ xs) → w.grownBy w' v.ownBlock → K (a.put o.dst v') w') : o.wp Tryz.prog a w K Q := by
  obtain ⟨i0, hi, hz0, hz1, hz2⟩ := info_parts info_sec
  rcases hrow.2 with ⟨e, h0⟩ | ⟨g, cap, cur, e, h1, h2, h3, h4, h5, h6⟩
  · obtain rfl := List.eq_nil_of_length_eq_zero h0
    rw [e] at hx
    have hr := run_append_owned_none (P := Tryz.prog) (w := w) B 23 o.type 40 i0 4 Tryz.underlying23 hi v ys.length (ys.flatMap seC) hown
    rw [List.append_nil] at h
    unfold Oper.wp execOp
    simp only [ho, resolve, invoke, builtin, Sem.run_bind, Sem.run_pure, Result.andThen_ok, List.map_toArray, List.map_cons, List.map_nil, hs, hx, hr]
    exact h v w hown (World.grownBy.refl w _)
  · have hc := hrow
    rw [e] at hx hc
    refine wp_append_own w s x 23 ho B 40 i0 _ 4 48 Tryz.underlying23 hi hz0 hz1 hz2 rfl (by decide) v ys.length (ys.flatMap seC) hs hown ⟨g, 0, none⟩ xs.length cap (xs.flatMap seC) hx hc.1 (fun j u hj => ?_) (one_all9 xs) (by unfold maxLen; omega) (by omega) hB (fun v' w' h1 h2 _ => h v' w' ?_ h2)
    · have hlt : j < xs.length * 4 := by
        have := (List.getElem?_eq_some_iff.1 hj).1
        rw [hc.1] at this
        exact this
      have := World.ownsRow.cellAt hc j hlt
      rw [hj] at this
      rw [show (⟨g, 0, none⟩ : Addr).add j = ⟨g, j, none⟩ by unfold Addr.add; split <;> simp_all]
      exact this
    · show w'.ownsRow B _ 4 v' (ys ++ xs).length ((ys ++ xs).flatMap seC)
      rw [List.length_append, List.flatMap_append]
      exact h1
theorem wpList_app_row9 {ops : Array Oper} {rest : List Oper} {o : Oper} {a : Act} {w : World} {Q : Exit → Act → World → Prop} (hgd : o.guard = none) (s x : Operand)
    (ho : o.op = .call { callee := .builtin .append, args := #[s, x], argTypes := #[23, 23] })
    (B : Nat) (v : Value) (ys : List SeL) (hs : a.eval s = v) (hown : OwnC seC w B 40 4 v ys) (B2 : Nat) (p : Option Addr) (n c : Nat) (xs : List SeL) (hx : a.eval x = .slice p n c) (hrow : OwnC seC w B2 40 4 (.slice p n c) xs)
    (hlen : ys.length + xs.length ≤ 2000000) (hB : B ≤ w.heap.size) (h : ∀ v' w', OwnC seC w' B 40 4 v' (ys ++ xs) → w.grownBy w' v.ownBlock → wpList Tryz.prog ops Q rest (a.put o.dst v') w') : wpList Tryz.prog ops Q (o :: rest) a w :=
  wpList_plain hgd fun K hK => wp_app_row9 s x ho B v ys hs hown B2 p n c xs hx hrow hlen hB fun v' w' h1 h2 => hK _ _ (h v' w' h1 h2)
theorem Wt9.grow {w W W2 : World} {y : SeL} {r : Nat} (h : Wt9 w W y) (hg : W.grownBy W2 (some r)) (hr : w.heap.size + 2 ≤ r) : Wt9 w W2 y := by
  have h1 := arr9_lt h.1
  have h2 := arr9_lt h.2.1
  exact ⟨(hg.block _ h1 (fun e => by injection e; omega)).trans h.1, (hg.block _ h2 (fun e => by injection e; omega)).trans h.2.1, h.2.2.grown hg h.2.2.size (fun k hk => by injection hk; omega)⟩
theorem spec_ill9 (code : Int) (w : World) : Calls Tryz.prog 113 #[.int .i64 code] w fun e w' => e = .returned (.agg #[.slice none 0 0, .int .i64 code]) ∧ Below w.heap.size w w' := by
  go_enter Tryz.func113, Tryz.ntmps113
  go_wp2
  have hA := Arr.fresh w 105 [.slice none 0 0, .int .i64 code]
  exact bodyPost_ret (v := .agg #[.slice none 0 0, .int .i64 code]) (results_cell_row (P := Tryz.prog) Tryz.results113 _ _ w.heap.size 105 _ (0, 0) _ rfl hA Tryz.underlying105 rfl (by kernel_rfl)) rfl ⟨rfl, (Below.refl _ _).alloc (Nat.le_refl _) _⟩
def NotAt (xs : List SeL) (r : ByteArray) (k : Nat) : Prop := ∀ i (h : i < xs.length), i < k → (xs[i].r.toList == r.toList) = false
def whereI (r : ByteArray) (xs : List SeL) : Int := if hereB r xs = true then (posS r xs : Int) else -1
set_option maxRecDepth 100000 in
set_option maxHeartbeats 1000000 in
theorem spec_at9 (xs : List SeL) (r : ByteArray) (p : Option Addr) (c : Nat) (w : World) (hn : xs.length ≤ 1048576) (hI : IncR xs xs.length) (hR : RowC seC 4 w p xs) :
    Calls Tryz.prog 46 #[.slice p xs.length c, .string r] w fun e w' => e = .returned (.int .i64 (whereI r xs)) ∧ Below w.heap.size w w' := by
  obtain ⟨n, hxn⟩ : ∃ n, xs.length = n := ⟨_, rfl⟩
  have HP := Lib.hid (fun W (h : Below w.heap.size w W) => hR.on h)
  have HN := Lib.hid hxn
  have HI := Lib.hid hI
  obtain ⟨Z, hZ⟩ : ∃ Z, whereI r xs = Z := ⟨_, rfl⟩
  have HZ := Lib.hid hZ
  rw [hxn] at hn ⊢
  rw [hZ]
  clear hR hxn hI hZ
  go_enter Tryz.func46, Tryz.ntmps46
  go_wp2
  go_loopw [5] (fun iq wr => ∃ k : Nat, k ≤ n ∧ iq = .int .i64 k ∧ NotAt xs r k ∧ Below w.heap.size w wr) (fun i _ => n - (intOf i).toNat)
  case atStart => exact ⟨0, Nat.zero_le _, rfl, fun i _ h => absurd h (Nat.not_lt_zero _), Below.refl _ _⟩
  case round =>
    obtain ⟨k, hk, rfl, hA, hb⟩ := hrel
    have HA := Lib.hid hA
    have HB := Lib.hid hb
    clear hA
    by_cases hlt : k < n
    · have hlt1 : k < xs.length := by rw [HN.out]; exact hlt
      obtain ⟨g, rfl, hg, a0, a1, a2, a3⟩ := row_se4 (HP.out _ hb) hlt1
      obtain ⟨x, hx⟩ : ∃ x, xs[k] = x := ⟨_, rfl⟩
      rw [hx] at a0 a1 a2 a3
      obtain ⟨b1, h1⟩ : ∃ b, (x.r.toList == r.toList) = b := ⟨_, rfl⟩
      have HX : Hid ((xs[k].r.toList == r.toList) = b1) := Lib.hid (by rw [hx]; exact h1)
      clear hb hx
      cases b1
      · go_wp2
        go_roundw
        case rel =>
          refine ⟨k + 1, by omega, by go_num, fun i hi h => ?_, HB.out⟩
          by_cases e : i = k
          · subst e; exact HX.out
          · exact HA.out i hi (by omega)
        case measure => simp [intOf]; omega
      · have HL : Hid ((k : Int) = Z) := Lib.hid (by
          obtain ⟨h2, h3⟩ := here_only (r := r) HI.out hlt1 (by simpa using HX.out)
          rw [← HZ.out]
          unfold whereI
          rw [if_pos h3, ← h2])
        go_wp2
        go_ret
        exact ⟨congrArg (fun z : Int => Ending.returned (.int .i64 z)) HL.out, HB.out⟩
    · have HL : Hid (Z = -1) := Lib.hid (by
        rw [← HZ.out]
        unfold whereI
        refine if_neg (fun h => ?_)
        have hp := here_lt h
        rw [here_at hp] at h
        rw [HA.out _ hp (by rw [HN.out] at hp; omega)] at h
        cases h)
      clear hb
      go_wp2
      go_ret
      exact ⟨congrArg (fun z : Int => Ending.returned (.int .i64 z)) HL.out.symm, HB.out⟩
noncomputable def setR (xs : List SeL) (y : SeL) : SoL := if hereB y.r xs = true then ⟨xs.set (posS y.r xs) y, 0⟩ else illS 6
set_option maxRecDepth 100000 in
set_option maxHeartbeats 2000000 in
theorem spec_set9 (xs : List SeL) (y : SeL) (p : Option Addr) (c B0 : Nat) (w : World) (hn : xs.length ≤ 5) (hI : IncR xs xs.length) (hO : OwnC seC w B0 40 4 (.slice p xs.length c) xs) :
    Calls Tryz.prog 114 #[.slice p xs.length c, .string y.r, seV y] w fun e w' => SoIs w.heap.size (setR xs y) e w' ∧ Below w.heap.size w w' := by
  have HO := Lib.hid (fun W (h : Below w.heap.size w W) => hO.on h)
  have i1 := fun W h => spec_at9 xs y.r p c W (by omega) hI h
  have i2 := fun W => spec_ill9 6 W
  have HS := Lib.hid (wt9_start w y)
  unfold setR
  unfold whereI at i1
  obtain ⟨P, hP⟩ : ∃ P, posS y.r xs = P := ⟨_, rfl⟩
  obtain ⟨n, hxn⟩ : ∃ n, xs.length = n := ⟨_, rfl⟩
  have HN := Lib.hid hxn
  by_cases hz : hereB y.r xs = true
  · rw [if_pos hz] at i1 ⊢
    have hlt := here_lt hz
    rw [hP] at i1 hlt ⊢
    have HLT := Lib.hid hlt
    rw [hxn] at hn i1 hlt HO ⊢
    have q1 : (0 : Int) ≤ (P : Int) := by omega
    have q2 : (P : Int) < (n : Int) := by omega
    unfold seV
    clear hO hI hP hz hxn i2
    go_enter Tryz.func114, Tryz.ntmps114
    go_wp2_with (first
      | (go_at_call 46; go_fit (i1 _ (row_own9 (HO.out _ HS.out.2.2))); rintro e w1 ⟨rfl, hb⟩; have HS1 := Lib.hid (HS.out.on hb); clear hb)
      | (at_builtin; have _ := HS1; refine wpList_app_row9 rfl _ _ rfl w1.heap.size _ [] rfl (empty_row9 w1) B0 _ _ _ xs rfl ((HO.out _ HS1.out.2.2).alloc _) (by rw [HN.out]; simp; omega) (by simp) ?_; intro v' w2 ho hg; rw [List.nil_append] at ho; obtain ⟨q, k, hv, _⟩ := ho.row seC_len; rw [HN.out] at hv; subst hv; have hz9 := arr9_lt HS1.out.2.1; obtain ⟨gg, k9, e9⟩ := Joins.ownsRow_form ho (by rw [HN.out]; omega); rw [HN.out] at e9; rw [e9] at ho ⊢; have HV := Lib.hid ho; have HS2 := Lib.hid ((HS1.out.on ((Below.refl _ _).alloc (Nat.le_refl _) (.cells #[] 40))).grow (r := w1.heap.size) hg (by omega)); have hgg := own_base ho gg rfl; clear ho hg; obtain ⟨⟨a0, a1, a2, a3⟩, -⟩ := arr9_cells HS2.out.1; obtain ⟨⟨r0, r1, r2, r3⟩, f0, f1, f2, f3⟩ := own_free9 HV.out P HLT.out; obtain ⟨⟨c0, c1⟩, k0, k1⟩ := arr9_two HS2.out.2.1))
    have hP9 := HS2.out.put (show w.heap.size + 2 ≤ gg by omega) P y
    have hO9 := own_put9 HV.out P HLT.out y
    have hg2 : w.heap.size + 1 < gg := by omega
    have hE : Arr _ (w.heap.size + 1) 105 [.slice (some ⟨gg, 0, none⟩) n k, .int .i64 0] := ((hP9.2.1.put 0 (.slice (some ⟨gg, 0, none⟩) n k)).put 1 (.int .i64 0))
    have hL : (xs.set P y).length = n := by rw [List.length_set]; exact HN.out
    have hO : OwnC seC (((put9 w2 gg P y).setCell ⟨w.heap.size + 1, 0, none⟩ (.slice (some ⟨gg, 0, none⟩) n k)).setCell ⟨w.heap.size + 1, 1, none⟩ (.int .i64 0)) w1.heap.size 40 4 (.slice (some ⟨gg, 0, none⟩) n k) (xs.set P y) := (hO9.low (a := ⟨w.heap.size + 1, 0, none⟩) hz9 _).low (a := ⟨w.heap.size + 1, 1, none⟩) hz9 _
    exact bodyPost_ret (v := .agg #[.slice (some ⟨gg, 0, none⟩) n k, .int .i64 0]) (results_cell_row (P := Tryz.prog) Tryz.results114 _ _ (w.heap.size + 1) 105 _ (0, 0) _ rfl hE Tryz.underlying105 rfl (by kernel_rfl)) rfl
      ⟨⟨some ⟨gg, 0, none⟩, k, by show _ = Ending.returned (.agg #[.slice (some ⟨gg, 0, none⟩) (xs.set P y).length k, .int .i64 0]); rw [hL], by show OwnC _ _ _ _ _ (.slice _ (xs.set P y).length k) _; rw [hL]; exact hO.mono (by omega)⟩, (hP9.2.2.setCell (p := ⟨w.heap.size + 1, 0, none⟩) (Nat.le_succ _) _).setCell (p := ⟨w.heap.size + 1, 1, none⟩) (Nat.le_succ _) _⟩
  · rw [if_neg hz] at i1 ⊢
    rw [hxn] at hn i1 HO ⊢
    unfold seV
    clear hO hI hP hz hxn
    go_enter Tryz.func114, Tryz.ntmps114
    go_wp2_with (first
      | (go_at_call 46; go_fit (i1 _ (row_own9 (HO.out _ HS.out.2.2))); rintro e w1 ⟨rfl, hb⟩; have HS1 := Lib.hid (HS.out.on hb); clear hb)
      | (go_at_call 113; go_fit (i2 _); rintro e w2 ⟨rfl, hb⟩; have HS2 := Lib.hid (HS1.out.on hb); clear hb; obtain ⟨⟨c0, c1⟩, k0, k1⟩ := arr9_two HS2.out.2.1))
    have hE : Arr _ (w.heap.size + 1) 105 [.slice none 0 0, .int .i64 6] := ((HS2.out.2.1.put 0 (.slice none 0 0)).put 1 (.int .i64 6))
    exact bodyPost_ret (v := .agg #[.slice none 0 0, .int .i64 6]) (results_cell_row (P := Tryz.prog) Tryz.results114 _ _ (w.heap.size + 1) 105 _ (0, 0) _ rfl hE Tryz.underlying105 rfl (by kernel_rfl)) rfl
      ⟨so_ill _ _ _, (HS2.out.2.2.setCell (p := ⟨w.heap.size + 1, 0, none⟩) (Nat.le_succ _) _).setCell (p := ⟨w.heap.size + 1, 1, none⟩) (Nat.le_succ _) _⟩
theorem ba_eq {s t : ByteArray} (h : s.toList = t.toList) : s = t := by
  rw [ba_ext h, ByteArray.toList_eq]
theorem here_res {xs : List SeL} {r : ByteArray} (h1 : okB xs = true) (h2 : hereB r xs = true) : resB r = true := by
  have hlt := here_lt h2
  have h3 := (okB_iff.1 h1).2.2 _ hlt hlt
  rw [here_at hlt] at h2
  have e := ba_eq (show xs[posS r xs].r.toList = r.toList by simpa using h2)
  unfold seB at h3
  rw [e] at h3
  simp only [Bool.and_eq_true] at h3
  exact h3.1.1.2
theorem set_with {xs : List SeL} {y : SeL} (h1 : ¬ (400 < xs.length ∨ 20000 < y.r.size)) (h2 : okB xs = true) (h3 : hereB y.r xs = true → seB y = true) : withR xs y = setR xs y := by
  unfold withR setR
  rw [if_neg h1, if_neg (by rw [h2]; decide)]
  by_cases hz : hereB y.r xs = true
  · rw [if_neg (by rw [hz]; decide), if_neg (by rw [h3 hz]; decide), if_pos hz]
  · rw [if_pos (by simpa using hz), if_neg hz]
end Go.Proofs.YtafdjjdmcnlddaaGreat

namespace Go.Proofs.YtafdjjdmcnlddaaGreat
set_option linter.unusedSimpArgs false
set_option linter.unusedVariables false
open Go.RowKit Go.Joins

theorem flat_len9 (xs : List SeL) : (xs.flatMap seC).length = xs.length * 4 := by
  induction xs with
  | nil => rfl
  | cons x xs ih => rw [List.flatMap_cons, List.length_append, seC_len, ih, List.length_cons]; omega
theorem flat_at9 : ∀ (xs : List SeL) (i j : Nat) (hi : i < xs.length), j < 4 → (xs.flatMap seC)[i * 4 + j]? = (seC xs[i])[j]?
  | x :: xs, 0, j, hi, hj => by
    rw [List.flatMap_cons, Nat.zero_mul, Nat.zero_add, List.getElem?_append_left (by rw [seC_len]; exact hj)]
    rfl
  | x :: xs, i + 1, j, hi, hj => by
    rw [List.flatMap_cons, List.getElem?_append_right (by rw [seC_len]; omega), seC_len, show (i + 1) * 4 + j - 4 = i * 4 + j by omega]
    exact flat_at9 xs i j (by simpa using hi) hj
/-- append(v, part...): the part's elements lie at an address. -/
theorem wp_app_sub9 {o : Oper} {a : Act} {w : World} {K : Act → World → Prop} {Q : Exit → Act → World → Prop} (s x : Operand)
    (ho : o.op = .call { callee := .builtin .append, args := #[s, x], argTypes := #[23, 23] })
    (B : Nat) (v : Value) (ys : List SeL) (hs : a.eval s = v) (hown : OwnC seC w B 40 4 v ys) (g off m c : Nat) (zs : List SeL) (hx : a.eval x = .slice (some ⟨g, off, none⟩) m c) (hm : zs.length = m)
    (hcells : ∀ i (h : i < zs.length) j, j < 4 → w.cell? ⟨g, off + (i * 4 + j), none⟩ = (seC zs[i])[j]?)
    (hlen : ys.length + zs.length ≤ 2000000) (hB : B ≤ w.heap.size) (h : ∀ v' w', OwnC seC w' B 40 4 v' (ys ++ zs) → w.grownBy w' v.ownBlock → K (a.put o.dst v') w') : o.wp Tryz.prog a w K Q := by
  obtain ⟨i0, hi, hz0, hz1, hz2⟩ := info_parts info_sec
  subst hm
  refine wp_append_own w s x 23 ho B 40 i0 _ 4 48 Tryz.underlying23 hi hz0 hz1 hz2 rfl (by decide) v ys.length (ys.flatMap seC) hs hown ⟨g, off, none⟩ zs.length c (zs.flatMap seC) hx (flat_len9 zs) (fun j u hj => ?_) (one_all9 zs) (by unfold maxLen; omega) (by omega) hB (fun v' w' h1 h2 _ => h v' w' ?_ h2)
  · have hlt : j < zs.length * 4 := by
      have := (List.getElem?_eq_some_iff.1 hj).1
      rwa [flat_len9] at this
    have h4 := hcells (j / 4) (by omega) (j % 4) (by omega)
    have h5 := flat_at9 zs (j / 4) (j % 4) (by omega) (by omega)
    rw [show j / 4 * 4 + j % 4 = j by omega] at h4 h5
    rw [← h5, hj] at h4
    rw [show (⟨g, off, none⟩ : Addr).add j = ⟨g, off + j, none⟩ by unfold Addr.add; split <;> simp_all]
    exact h4
  · show w'.ownsRow B _ 4 v' (ys ++ zs).length ((ys ++ zs).flatMap seC)
    rw [List.length_append, List.flatMap_append]
    exact h1
theorem unb_size {xs : List SeL} {r : ByteArray} (h : 400 < xs.length ∨ 20000 < r.size) : unbindR xs r = illS 2 := by unfold unbindR; exact if_pos h
theorem unb_form {xs : List SeL} {r : ByteArray} (h : ¬ (400 < xs.length ∨ 20000 < r.size)) (h2 : okB xs = false) : unbindR xs r = illS 1 := by unfold unbindR; rw [if_neg h, if_pos h2]
theorem unb_none {xs : List SeL} {r : ByteArray} (h : ¬ (400 < xs.length ∨ 20000 < r.size)) (h2 : okB xs = true) (h3 : hereB r xs = false) : unbindR xs r = illS 6 := by unfold unbindR; rw [if_neg h, if_neg (by rw [h2]; decide), if_pos h3]
theorem unb_ok {xs : List SeL} {r : ByteArray} (h : ¬ (400 < xs.length ∨ 20000 < r.size)) (h2 : okB xs = true) (h3 : hereB r xs = true) : unbindR xs r = ⟨xs.take (posS r xs) ++ xs.drop (posS r xs + 1), 0⟩ := by unfold unbindR; rw [if_neg h, if_neg (by rw [h2]; decide), if_neg (by rw [h3]; decide)]
set_option maxRecDepth 100000 in
set_option maxHeartbeats 4000000 in
theorem spec_unbind (xs : List SeL) (r : ByteArray) (p : Option Addr) (c B0 : Nat) (w : World) (hn : xs.length ≤ 1048576) (hr : r.size ≤ 1048576) (hw : ∀ x ∈ xs, x.r.size ≤ 1048576 ∧ x.s.size ≤ 1048576) (hO : OwnC seC w B0 40 4 (.slice p xs.length c) xs) :
    Calls Tryz.prog 92 #[.slice p xs.length c, .string r] w fun e w' => SoIs w.heap.size (unbindR xs r) e w' ∧ Below w.heap.size w w' := by
  have HA0 : Hid (Arr (w.alloc (.cells #[.slice none 0 0, .int .i64 0] 105)) w.heap.size 105 [.slice none 0 0, .int .i64 0]) := Lib.hid (Arr.fresh w _ [.slice none 0 0, .int .i64 0])
  have HB0 : Hid (Below w.heap.size w (w.alloc (.cells #[.slice none 0 0, .int .i64 0] 105))) := Lib.hid ((Below.refl _ _).alloc (Nat.le_refl _) _)
  have HO := Lib.hid (fun W (h : Below w.heap.size w W) => hO.on h)
  have i0 := fun code W => spec_ill9 code W
  have i1 := fun W h => spec_seright xs p c W hn (fun x hx => by have := (hw x hx).1; unfold maxLen; omega) h
  have i2 := fun W (hk : okB xs = true) h => spec_at9 xs r p c W hn (okB_iff.1 hk).2.1 h
  obtain ⟨n, hxn⟩ : ∃ n, xs.length = n := ⟨_, rfl⟩
  have HN := Lib.hid hxn
  by_cases h1 : 400 < xs.length ∨ 20000 < r.size
  · rw [unb_size h1]
    rw [hxn] at h1 hn ⊢
    clear hO hw i1 i2 hxn
    by_cases h2 : 400 < n
    · clear h1
      go_enter Tryz.func92, Tryz.ntmps92
      go_wp2_with (first
        | (go_at_call 113; go_fit (i0 _ _); rintro e0 w9 ⟨rfl, hb⟩; have HA9 := Lib.hid (arr9_on HA0.out hb); have HB9 := Lib.hid (HB0.out.trans (hb.mono HB0.out.size)); clear hb; obtain ⟨⟨c0, c1⟩, k0, k1⟩ := arr9_two HA9.out))
      have hE : Arr _ w.heap.size 105 [.slice none 0 0, .int .i64 2] := ((HA9.out.put 0 (.slice none 0 0)).put 1 (.int .i64 2))
      exact bodyPost_ret (v := .agg #[.slice none 0 0, .int .i64 2]) (results_cell_row (P := Tryz.prog) Tryz.results92 _ _ w.heap.size 105 _ (0, 0) _ rfl hE Tryz.underlying105 rfl (by kernel_rfl)) rfl
        ⟨so_ill _ _ _, (HB9.out.setCell (p := ⟨w.heap.size, 0, none⟩) (Nat.le_refl _) _).setCell (p := ⟨w.heap.size, 1, none⟩) (Nat.le_refl _) _⟩
    · have h3 : 20000 < r.size := by omega
      clear h1
      go_enter Tryz.func92, Tryz.ntmps92
      go_wp2_with (first
        | (go_at_call 113; go_fit (i0 _ _); rintro e0 w9 ⟨rfl, hb⟩; have HA9 := Lib.hid (arr9_on HA0.out hb); have HB9 := Lib.hid (HB0.out.trans (hb.mono HB0.out.size)); clear hb; obtain ⟨⟨c0, c1⟩, k0, k1⟩ := arr9_two HA9.out))
      have hE : Arr _ w.heap.size 105 [.slice none 0 0, .int .i64 2] := ((HA9.out.put 0 (.slice none 0 0)).put 1 (.int .i64 2))
      exact bodyPost_ret (v := .agg #[.slice none 0 0, .int .i64 2]) (results_cell_row (P := Tryz.prog) Tryz.results92 _ _ w.heap.size 105 _ (0, 0) _ rfl hE Tryz.underlying105 rfl (by kernel_rfl)) rfl
        ⟨so_ill _ _ _, (HB9.out.setCell (p := ⟨w.heap.size, 0, none⟩) (Nat.le_refl _) _).setCell (p := ⟨w.heap.size, 1, none⟩) (Nat.le_refl _) _⟩
  have g1 : ¬ 400 < n := by omega
  have g2 : ¬ 20000 < r.size := by omega
  by_cases h2 : okB xs = true
  · replace i2 := fun W h => i2 W h2 h
    rw [h2] at i1
    unfold whereI at i2
    by_cases h3 : hereB r xs = true
    · rw [if_pos h3] at i2
      rw [unb_ok h1 h2 h3]
      have hlt := here_lt h3
      have h5 := (okB_iff.1 h2).1
      obtain ⟨P, hP⟩ : ∃ P, posS r xs = P := ⟨_, rfl⟩
      rw [hP] at i2 hlt ⊢
      have HLT := Lib.hid hlt
      rw [hxn] at hn i1 i2 HO hlt h5 ⊢
      obtain ⟨g, cap, e⟩ := Joins.ownsRow_form hO (by rw [hxn]; omega)
      rw [hxn] at e
      injection e with e1 _ e3
      subst e1 e3
      have hcap : n ≤ c := by
        rcases hO.2 with ⟨h0, _⟩ | ⟨g', cap', cur, q1, _, _, q4, _⟩
        · cases h0
        · injection q1 with _ _ q3
          subst q3
          rw [hxn] at q4
          exact q4
      have q1 : ¬ ((P : Int) < 0) := by omega
      have q2 : (P : Int) ≤ (n : Int) := by omega
      have q3 : (P : Int) + 1 ≤ (n : Int) := by omega
      have q4 : (0 : Int) ≤ (P : Int) := by omega
      have q5 : (0 : Int) ≤ (P : Int) + 1 := by omega
      have q6 : (n : Int) ≤ (c : Int) := by omega
      have q7 : (P : Int) ≤ (c : Int) := by omega
      have hw1 : IntKind.i64.wrap ((P : Int) + 1) = (P : Int) + 1 := IntWalk.i64_in _ (by omega)
      clear hO hw hxn h1 h2 h3 hP
      go_enter Tryz.func92, Tryz.ntmps92
      go_wp2_with (first
        | (go_at_call 40; go_fit (i1 _ (row_own9 (HO.out _ HB0.out))); rintro e0 w1 ⟨rfl, hb⟩; have HA1 := Lib.hid (arr9_on HA0.out hb); have HB1 := Lib.hid (HB0.out.trans (hb.mono HB0.out.size)); clear hb)
        | (go_at_call 46; go_fit (i2 _ (row_own9 (HO.out _ HB1.out))); rintro e0 w2 ⟨rfl, hb⟩; have HA2 := Lib.hid (arr9_on HA1.out hb); have HB2 := Lib.hid (HB1.out.trans (hb.mono HB1.out.size)); clear hb))
      refine wp_region_held_drew (S := fun _ => True) (by kernel_rfl) trivial (fun hHeld => ?_)
      have HAd := Lib.hid (arr9_on HA2.out (Below.refl _ _).drew)
      have HBd := Lib.hid HB2.out.drew
      generalize w2.drew = Wd at hHeld HAd HBd ⊢
      clear HA1 HA2 HB1 HB2 HA0 HB0
      by_cases hc : c = P + 1
      · have HNP : Hid (n = P + 1) := Lib.hid (by omega)
        have HC := Lib.hid hc
        clear hc
        refine takeQ (i := 1) (k := 26) (v := .slice (some ⟨g, 0, none⟩) n c) rfl (by rfl) (by kernel_rfl) (by kernel_rfl) (by kernel_rfl) (fun _ _ _ h => h) (by rfl) ?_ hHeld ?_
        · intro w1 hSw; go_simp
        (try simp only [Act.put, List.setIfInBounds_toArray, List.set_cons_zero, List.set_cons_succ])
        refine takeQ (i := 2) (k := 27) (v := .int .i64 (P : Int)) rfl (by rfl) (by kernel_rfl) (by kernel_rfl) (by kernel_rfl) (fun _ _ _ h => h) (by rfl) ?_ hHeld ?_
        · intro w1 hSw; go_simp
        (try simp only [Act.put, List.setIfInBounds_toArray, List.set_cons_zero, List.set_cons_succ])
        refine takeQ (i := 3) (k := 28) (v := .slice (some ⟨g, 0, none⟩) P c) rfl (by rfl) (by kernel_rfl) (by kernel_rfl) (by kernel_rfl) (fun _ _ _ h => h) (by rfl) ?_ hHeld ?_
        · intro w1 hSw; go_simp
        (try simp only [Act.put, List.setIfInBounds_toArray, List.set_cons_zero, List.set_cons_succ])
        refine takeQ (i := 5) (k := 30) (v := .slice (some ⟨g, 0, none⟩) n c) rfl (by rfl) (by kernel_rfl) (by kernel_rfl) (by kernel_rfl) (fun _ _ _ h => h) (by rfl) ?_ hHeld ?_
        · intro w1 hSw; go_simp
        (try simp only [Act.put, List.setIfInBounds_toArray, List.set_cons_zero, List.set_cons_succ])
        refine takeQ (i := 6) (k := 31) (v := .int .i64 (P : Int)) rfl (by rfl) (by kernel_rfl) (by kernel_rfl) (by kernel_rfl) (fun _ _ _ h => h) (by rfl) ?_ hHeld ?_
        · intro w1 hSw; go_simp
        (try simp only [Act.put, List.setIfInBounds_toArray, List.set_cons_zero, List.set_cons_succ])
        refine takeQ (i := 7) (k := 32) (v := .int .i64 ((P : Int) + 1)) rfl (by rfl) (by kernel_rfl) (by kernel_rfl) (by kernel_rfl) (fun _ _ _ h => h) (by rfl) ?_ hHeld ?_
        · intro w1 hSw; go_simp; (try (first | exact hw1 | omega))
        (try simp only [Act.put, List.setIfInBounds_toArray, List.set_cons_zero, List.set_cons_succ])
        refine takeQ (i := 8) (k := 33) (v := .slice (some ⟨g, 0, none⟩) 0 0) rfl (by rfl) (by kernel_rfl) (by kernel_rfl) (by kernel_rfl) (fun _ _ _ h => h) (by rfl) ?_ hHeld ?_
        · intro w1 hSw; go_simp; exact ⟨HC.out, by have := HNP.out; omega, by have := HC.out; omega⟩
        (try simp only [Act.put, List.setIfInBounds_toArray, List.set_cons_zero, List.set_cons_succ])
        refine wpAnyH_ready (rs := [0]) (by kernel_rfl) (by simp) ?_
        refine AllReadyH.cons rfl (fun K hK => ?_) AllReadyH.nil
        rw [if_pos (by rfl)]
        go_simp
        have HA3 := Lib.hid (arr9_on HAd.out ((Below.refl _ _).alloc (Nat.le_refl _) (.cells #[] 40)))
        have HB3 := Lib.hid (HBd.out.alloc HBd.out.size (.cells #[] 40))
        have hzd : w.heap.size < Wd.heap.size := arr9_lt HAd.out
        refine hK.out _ _ trivial (fun hHeld => ?_)
        clear hK K
        (try simp only [Act.put, List.setIfInBounds_toArray, List.set_cons_zero, List.set_cons_succ])
        refine wpAnyH_ready (rs := [4]) (by kernel_rfl) (by simp) ?_
        refine AllReadyH.cons rfl (fun K hK => ?_) AllReadyH.nil
        rw [if_pos (by rfl)]
        refine wp_app_sub9 _ _ rfl Wd.heap.size _ [] rfl (empty_row9 Wd) g 0 P c (xs.take P) rfl (by rw [List.length_take, HN.out]; omega) (fun i hi j hj => ?_) (by rw [List.length_take, HN.out]; simp; omega) (by simp) ?_
        · have hi' : i < P := by rw [List.length_take] at hi; omega
          rw [Nat.zero_add, OwnC.cell seC_len (HO.out _ HB3.out) i j (by have := HLT.out; omega) hj, List.getElem_take]
        intro v4 w4 hv4 hg4
        rw [List.nil_append] at hv4
        have HA4 : Hid (Arr w4 w.heap.size 105 [.slice none 0 0, .int .i64 0]) := Lib.hid ((hg4.block _ (by simp; omega) (fun e => by injection e with e; have e' : Wd.heap.size = w.heap.size := e.symm; omega)).trans HA3.out)
        have HB4 : Hid (Below w.heap.size w w4) := Lib.hid (HB3.out.grown hg4 HB3.out.size (fun k hk => by injection hk with hk; have hk' : Wd.heap.size = k := hk; omega))
        have hb4 := own_base hv4
        refine hK.out _ _ trivial (fun hHeld => ?_)
        clear hK K
        (try simp only [Act.put, List.setIfInBounds_toArray, List.set_cons_zero, List.set_cons_succ])
        refine wpAnyH_ready (rs := [9]) (by kernel_rfl) (by simp) ?_
        refine AllReadyH.cons rfl (fun K hK => ?_) AllReadyH.nil
        rw [if_pos (by rfl)]
        refine wp_app_sub9 _ _ rfl Wd.heap.size _ (xs.take P) rfl hv4 g 0 0 0 (xs.drop (P + 1)) rfl (by rw [List.length_drop, HN.out]; have := HNP.out; omega) (fun i hi j hj => absurd hi (by rw [List.length_drop, HN.out]; have := HNP.out; omega)) (by rw [List.length_take, List.length_drop, HN.out]; omega) (by have := hg4.size; simp at this; omega) ?_
        intro v5 w5 hv5 hg5
        have HA5 : Hid (Arr w5 w.heap.size 105 [.slice none 0 0, .int .i64 0]) := Lib.hid ((hg5.block _ (arr9_lt HA4.out) (fun e => by have := hb4 _ e.symm; omega)).trans HA4.out)
        have HB5 : Hid (Below w.heap.size w w5) := Lib.hid (HB4.out.grown hg5 HB4.out.size (fun k hk => by have := hb4 k hk; omega))
        obtain ⟨q5, k5, e5, -⟩ := hv5.row seC_len
        obtain ⟨m5, hm5⟩ : ∃ m, (xs.take P ++ (xs.drop (P + 1))).length = m := ⟨_, rfl⟩
        rw [hm5] at e5
        subst e5
        have HM5 := Lib.hid hm5
        clear hm5
        refine hK.out _ _ trivial (fun hHeld => ?_)
        clear hK K
        (try simp only [Act.put, List.setIfInBounds_toArray, List.set_cons_zero, List.set_cons_succ])
        refine takeQ (i := 10) (k := 35) (v := .agg #[.slice q5 m5 k5, .int .i64 0]) rfl (by rfl) (by kernel_rfl) (by kernel_rfl) (by kernel_rfl) (fun _ _ _ h => h) (by rfl) ?_ hHeld ?_
        · intro w1 hSw; go_simp
        (try simp only [Act.put, List.setIfInBounds_toArray, List.set_cons_zero, List.set_cons_succ])
        obtain ⟨⟨c0, c1⟩, k0, k1⟩ := arr9_two HA5.out
        refine wpAnyH_ready (rs := [11]) (by kernel_rfl) (by simp) ?_
        refine AllReadyH.cons rfl (fun K hK => ?_) AllReadyH.nil
        rw [if_pos (by rfl)]
        go_simp
        refine hK.out _ _ trivial (fun hHeld => ?_)
        clear hK K
        (try simp only [Act.put, List.setIfInBounds_toArray, List.set_cons_zero, List.set_cons_succ])
        refine wpAnyH_done (by kernel_rfl) ?_ _
        go_wp2
        obtain rfl := HM5.out
        obtain ⟨hE, hO2, hBl⟩ := pass9 (W2 := w) (R := ⟨xs.take P ++ (xs.drop (P + 1)), 0⟩) HA5.out HB5.out (Nat.le_refl _) hzd hv5
        exact bodyPost_ret (v := .agg #[.slice q5 (xs.take P ++ (xs.drop (P + 1))).length k5, .int .i64 0]) (results_cell_row (P := Tryz.prog) Tryz.results92 _ _ w.heap.size 105 _ (0, 0) _ rfl hE Tryz.underlying105 rfl (by kernel_rfl)) rfl
          ⟨⟨q5, k5, rfl, hO2⟩, hBl⟩
      · have q8 : ¬ ((c : Int) = (P : Int) + 1) := by omega
        refine takeQ (i := 1) (k := 26) (v := .slice (some ⟨g, 0, none⟩) n c) rfl (by rfl) (by kernel_rfl) (by kernel_rfl) (by kernel_rfl) (fun _ _ _ h => h) (by rfl) ?_ hHeld ?_
        · intro w1 hSw; go_simp
        (try simp only [Act.put, List.setIfInBounds_toArray, List.set_cons_zero, List.set_cons_succ])
        refine takeQ (i := 2) (k := 27) (v := .int .i64 (P : Int)) rfl (by rfl) (by kernel_rfl) (by kernel_rfl) (by kernel_rfl) (fun _ _ _ h => h) (by rfl) ?_ hHeld ?_
        · intro w1 hSw; go_simp
        (try simp only [Act.put, List.setIfInBounds_toArray, List.set_cons_zero, List.set_cons_succ])
        refine takeQ (i := 3) (k := 28) (v := .slice (some ⟨g, 0, none⟩) P c) rfl (by rfl) (by kernel_rfl) (by kernel_rfl) (by kernel_rfl) (fun _ _ _ h => h) (by rfl) ?_ hHeld ?_
        · intro w1 hSw; go_simp
        (try simp only [Act.put, List.setIfInBounds_toArray, List.set_cons_zero, List.set_cons_succ])
        refine takeQ (i := 5) (k := 30) (v := .slice (some ⟨g, 0, none⟩) n c) rfl (by rfl) (by kernel_rfl) (by kernel_rfl) (by kernel_rfl) (fun _ _ _ h => h) (by rfl) ?_ hHeld ?_
        · intro w1 hSw; go_simp
        (try simp only [Act.put, List.setIfInBounds_toArray, List.set_cons_zero, List.set_cons_succ])
        refine takeQ (i := 6) (k := 31) (v := .int .i64 (P : Int)) rfl (by rfl) (by kernel_rfl) (by kernel_rfl) (by kernel_rfl) (fun _ _ _ h => h) (by rfl) ?_ hHeld ?_
        · intro w1 hSw; go_simp
        (try simp only [Act.put, List.setIfInBounds_toArray, List.set_cons_zero, List.set_cons_succ])
        refine takeQ (i := 7) (k := 32) (v := .int .i64 ((P : Int) + 1)) rfl (by rfl) (by kernel_rfl) (by kernel_rfl) (by kernel_rfl) (fun _ _ _ h => h) (by rfl) ?_ hHeld ?_
        · intro w1 hSw; go_simp; (try (first | exact hw1 | omega))
        (try simp only [Act.put, List.setIfInBounds_toArray, List.set_cons_zero, List.set_cons_succ])
        refine takeQ (i := 8) (k := 33) (v := .slice (some ⟨g, (P + 1) * 4, none⟩) (n - (P + 1)) (c - (P + 1))) rfl (by rfl) (by kernel_rfl) (by kernel_rfl) (by kernel_rfl) (fun _ _ _ h => h) (by rfl) ?_ hHeld ?_
        · intro w1 hSw; go_simp; (try simp)
        (try simp only [Act.put, List.setIfInBounds_toArray, List.set_cons_zero, List.set_cons_succ])
        refine wpAnyH_ready (rs := [0]) (by kernel_rfl) (by simp) ?_
        refine AllReadyH.cons rfl (fun K hK => ?_) AllReadyH.nil
        rw [if_pos (by rfl)]
        go_simp
        have HA3 := Lib.hid (arr9_on HAd.out ((Below.refl _ _).alloc (Nat.le_refl _) (.cells #[] 40)))
        have HB3 := Lib.hid (HBd.out.alloc HBd.out.size (.cells #[] 40))
        have hzd : w.heap.size < Wd.heap.size := arr9_lt HAd.out
        refine hK.out _ _ trivial (fun hHeld => ?_)
        clear hK K
        (try simp only [Act.put, List.setIfInBounds_toArray, List.set_cons_zero, List.set_cons_succ])
        refine wpAnyH_ready (rs := [4]) (by kernel_rfl) (by simp) ?_
        refine AllReadyH.cons rfl (fun K hK => ?_) AllReadyH.nil
        rw [if_pos (by rfl)]
        refine wp_app_sub9 _ _ rfl Wd.heap.size _ [] rfl (empty_row9 Wd) g 0 P c (xs.take P) rfl (by rw [List.length_take, HN.out]; omega) (fun i hi j hj => ?_) (by rw [List.length_take, HN.out]; simp; omega) (by simp) ?_
        · have hi' : i < P := by rw [List.length_take] at hi; omega
          rw [Nat.zero_add, OwnC.cell seC_len (HO.out _ HB3.out) i j (by have := HLT.out; omega) hj, List.getElem_take]
        intro v4 w4 hv4 hg4
        rw [List.nil_append] at hv4
        have HA4 : Hid (Arr w4 w.heap.size 105 [.slice none 0 0, .int .i64 0]) := Lib.hid ((hg4.block _ (by simp; omega) (fun e => by injection e with e; have e' : Wd.heap.size = w.heap.size := e.symm; omega)).trans HA3.out)
        have HB4 : Hid (Below w.heap.size w w4) := Lib.hid (HB3.out.grown hg4 HB3.out.size (fun k hk => by injection hk with hk; have hk' : Wd.heap.size = k := hk; omega))
        have hb4 := own_base hv4
        refine hK.out _ _ trivial (fun hHeld => ?_)
        clear hK K
        (try simp only [Act.put, List.setIfInBounds_toArray, List.set_cons_zero, List.set_cons_succ])
        refine wpAnyH_ready (rs := [9]) (by kernel_rfl) (by simp) ?_
        refine AllReadyH.cons rfl (fun K hK => ?_) AllReadyH.nil
        rw [if_pos (by rfl)]
        refine wp_app_sub9 _ _ rfl Wd.heap.size _ (xs.take P) rfl hv4 g ((P + 1) * 4) (n - (P + 1)) (c - (P + 1)) (xs.drop (P + 1)) rfl (by rw [List.length_drop, HN.out]) (fun i hi j hj => ?_) (by rw [List.length_take, List.length_drop, HN.out]; omega) (by have := hg4.size; simp at this; omega) ?_
        · rw [List.length_drop, HN.out] at hi
          rw [show (P + 1) * 4 + (i * 4 + j) = (P + 1 + i) * 4 + j by omega, OwnC.cell seC_len (HO.out _ HB4.out) (P + 1 + i) j (by rw [HN.out]; omega) hj, List.getElem_drop]
        intro v5 w5 hv5 hg5
        have HA5 : Hid (Arr w5 w.heap.size 105 [.slice none 0 0, .int .i64 0]) := Lib.hid ((hg5.block _ (arr9_lt HA4.out) (fun e => by have := hb4 _ e.symm; omega)).trans HA4.out)
        have HB5 : Hid (Below w.heap.size w w5) := Lib.hid (HB4.out.grown hg5 HB4.out.size (fun k hk => by have := hb4 k hk; omega))
        obtain ⟨q5, k5, e5, -⟩ := hv5.row seC_len
        obtain ⟨m5, hm5⟩ : ∃ m, (xs.take P ++ (xs.drop (P + 1))).length = m := ⟨_, rfl⟩
        rw [hm5] at e5
        subst e5
        have HM5 := Lib.hid hm5
        clear hm5
        refine hK.out _ _ trivial (fun hHeld => ?_)
        clear hK K
        (try simp only [Act.put, List.setIfInBounds_toArray, List.set_cons_zero, List.set_cons_succ])
        refine takeQ (i := 10) (k := 35) (v := .agg #[.slice q5 m5 k5, .int .i64 0]) rfl (by rfl) (by kernel_rfl) (by kernel_rfl) (by kernel_rfl) (fun _ _ _ h => h) (by rfl) ?_ hHeld ?_
        · intro w1 hSw; go_simp
        (try simp only [Act.put, List.setIfInBounds_toArray, List.set_cons_zero, List.set_cons_succ])
        obtain ⟨⟨c0, c1⟩, k0, k1⟩ := arr9_two HA5.out
        refine wpAnyH_ready (rs := [11]) (by kernel_rfl) (by simp) ?_
        refine AllReadyH.cons rfl (fun K hK => ?_) AllReadyH.nil
        rw [if_pos (by rfl)]
        go_simp
        refine hK.out _ _ trivial (fun hHeld => ?_)
        clear hK K
        (try simp only [Act.put, List.setIfInBounds_toArray, List.set_cons_zero, List.set_cons_succ])
        refine wpAnyH_done (by kernel_rfl) ?_ _
        go_wp2
        obtain rfl := HM5.out
        obtain ⟨hE, hO2, hBl⟩ := pass9 (W2 := w) (R := ⟨xs.take P ++ (xs.drop (P + 1)), 0⟩) HA5.out HB5.out (Nat.le_refl _) hzd hv5
        exact bodyPost_ret (v := .agg #[.slice q5 (xs.take P ++ (xs.drop (P + 1))).length k5, .int .i64 0]) (results_cell_row (P := Tryz.prog) Tryz.results92 _ _ w.heap.size 105 _ (0, 0) _ rfl hE Tryz.underlying105 rfl (by kernel_rfl)) rfl
          ⟨⟨q5, k5, rfl, hO2⟩, hBl⟩
    · rw [if_neg h3] at i2
      rw [unb_none h1 h2 (by simpa using h3)]
      rw [hxn] at hn i1 i2 HO ⊢
      clear hO hw hxn h1 h2 h3
      go_enter Tryz.func92, Tryz.ntmps92
      go_wp2_with (first
        | (go_at_call 40; go_fit (i1 _ (row_own9 (HO.out _ HB0.out))); rintro e0 w1 ⟨rfl, hb⟩; have HA1 := Lib.hid (arr9_on HA0.out hb); have HB1 := Lib.hid (HB0.out.trans (hb.mono HB0.out.size)); clear hb)
        | (go_at_call 46; go_fit (i2 _ (row_own9 (HO.out _ HB1.out))); rintro e0 w2 ⟨rfl, hb⟩; have HA2 := Lib.hid (arr9_on HA1.out hb); have HB2 := Lib.hid (HB1.out.trans (hb.mono HB1.out.size)); clear hb)
        | (go_at_call 113; go_fit (i0 _ _); rintro e0 w9 ⟨rfl, hb⟩; have HA9 := Lib.hid (arr9_on HA2.out hb); have HB9 := Lib.hid (HB2.out.trans (hb.mono HB2.out.size)); clear hb; obtain ⟨⟨c0, c1⟩, k0, k1⟩ := arr9_two HA9.out))
      have hE : Arr _ w.heap.size 105 [.slice none 0 0, .int .i64 6] := ((HA9.out.put 0 (.slice none 0 0)).put 1 (.int .i64 6))
      exact bodyPost_ret (v := .agg #[.slice none 0 0, .int .i64 6]) (results_cell_row (P := Tryz.prog) Tryz.results92 _ _ w.heap.size 105 _ (0, 0) _ rfl hE Tryz.underlying105 rfl (by kernel_rfl)) rfl
        ⟨so_ill _ _ _, (HB9.out.setCell (p := ⟨w.heap.size, 0, none⟩) (Nat.le_refl _) _).setCell (p := ⟨w.heap.size, 1, none⟩) (Nat.le_refl _) _⟩
  · rw [unb_form h1 (by simpa using h2)]
    rw [show okB xs = false by simpa using h2] at i1
    rw [hxn] at hn i1 HO ⊢
    clear hO hw i2 hxn h1 h2
    go_enter Tryz.func92, Tryz.ntmps92
    go_wp2_with (first
      | (go_at_call 40; go_fit (i1 _ (row_own9 (HO.out _ HB0.out))); rintro e0 w1 ⟨rfl, hb⟩; have HA1 := Lib.hid (arr9_on HA0.out hb); have HB1 := Lib.hid (HB0.out.trans (hb.mono HB0.out.size)); clear hb)
      | (go_at_call 113; go_fit (i0 _ _); rintro e0 w9 ⟨rfl, hb⟩; have HA9 := Lib.hid (arr9_on HA1.out hb); have HB9 := Lib.hid (HB1.out.trans (hb.mono HB1.out.size)); clear hb; obtain ⟨⟨c0, c1⟩, k0, k1⟩ := arr9_two HA9.out))
    have hE : Arr _ w.heap.size 105 [.slice none 0 0, .int .i64 1] := ((HA9.out.put 0 (.slice none 0 0)).put 1 (.int .i64 1))
    exact bodyPost_ret (v := .agg #[.slice none 0 0, .int .i64 1]) (results_cell_row (P := Tryz.prog) Tryz.results92 _ _ w.heap.size 105 _ (0, 0) _ rfl hE Tryz.underlying105 rfl (by kernel_rfl)) rfl
      ⟨so_ill _ _ _, (HB9.out.setCell (p := ⟨w.heap.size, 0, none⟩) (Nat.le_refl _) _).setCell (p := ⟨w.heap.size, 1, none⟩) (Nat.le_refl _) _⟩
end Go.Proofs.YtafdjjdmcnlddaaGreat

namespace Go.Proofs.YtafdjjdmcnlddaaGreat
set_option linter.unusedSimpArgs false
set_option linter.unusedVariables false
open Go.RowKit Go.Joins

end Go.Proofs.YtafdjjdmcnlddaaGreat

namespace Go.Proofs.YtafdjjdmcnlddaaGreat
set_option linter.unusedSimpArgs false
set_option linter.unusedVariables false
open Go.RowKit Go.Joins

theorem bnd_size {xs : List SeL} {r : ByteArray} (h : 400 < xs.length ∨ 20000 < r.size) : bindR xs r = illS 2 := by unfold bindR; exact if_pos h
theorem bnd_form {xs : List SeL} {r : ByteArray} (h : ¬ (400 < xs.length ∨ 20000 < r.size)) (h2 : okB xs = false ∨ resB r = false) : bindR xs r = illS 1 := by unfold bindR; rw [if_neg h, if_pos h2]
theorem bnd_there {xs : List SeL} {r : ByteArray} (h : ¬ (400 < xs.length ∨ 20000 < r.size)) (h2 : ¬ (okB xs = false ∨ resB r = false)) (h3 : hereB r xs = true) : bindR xs r = illS 7 := by unfold bindR; rw [if_neg h, if_neg h2, if_pos h3]
theorem bnd_full {xs : List SeL} {r : ByteArray} (h : ¬ (400 < xs.length ∨ 20000 < r.size)) (h2 : ¬ (okB xs = false ∨ resB r = false)) (h3 : ¬ hereB r xs = true) (h4 : xs.length = 5) : bindR xs r = illS 9 := by unfold bindR; rw [if_neg h, if_neg h2, if_neg h3, if_pos h4]
theorem bnd_ok {xs : List SeL} {r : ByteArray} (h : ¬ (400 < xs.length ∨ 20000 < r.size)) (h2 : ¬ (okB xs = false ∨ resB r = false)) (h3 : ¬ hereB r xs = true) (h4 : ¬ xs.length = 5) : bindR xs r = ⟨(xs.take (posS r xs) ++ [newS r]) ++ xs.drop (posS r xs), 0⟩ := by
  unfold bindR
  rw [if_neg h, if_neg h2, if_neg h3, if_neg h4, List.append_assoc]
  rfl
/-- append(v, session). -/
theorem wp_app_one9 {o : Oper} {a : Act} {w : World} {K : Act → World → Prop} {Q : Exit → Act → World → Prop} (s x : Operand)
    (ho : o.op = .call { callee := .builtin .append, args := #[s, x], argTypes := #[23, 23] })
    (B : Nat) (v : Value) (ys : List SeL) (hs : a.eval s = v) (hown : OwnC seC w B 40 4 v ys) (g : Nat) (z : SeL) (hx : a.eval x = .slice (some ⟨g, 0, none⟩) 1 1) (hA : Arr w g 40 (seC z))
    (hlen : ys.length ≤ 1000000) (hB : B ≤ w.heap.size) (h : ∀ v' w', OwnC seC w' B 40 4 v' (ys ++ [z]) → w.grownBy w' v.ownBlock → K (a.put o.dst v') w') : o.wp Tryz.prog a w K Q :=
  wp_app_sub9 s x ho B v ys hs hown g 0 1 1 [z] hx rfl (fun i hi j hj => by
    have h0 : i = 0 := by simp at hi; omega
    subst h0
    have e := hA.cell j
    rw [Nat.zero_mul, Nat.zero_add, Nat.zero_add]
    match j, hj with
    | 0, _ => exact hA.cell 0
    | 1, _ => exact hA.cell 1
    | 2, _ => exact hA.cell 2
    | 3, _ => exact hA.cell 3) (by simp; omega) hB h
set_option maxRecDepth 100000 in
set_option maxHeartbeats 8000000 in
theorem spec_bind (xs : List SeL) (r : ByteArray) (p : Option Addr) (c B0 : Nat) (w : World) (hn : xs.length ≤ 1048576) (hr : r.size ≤ 1048576) (hw : ∀ x ∈ xs, x.r.size ≤ 1048576 ∧ x.s.size ≤ 1048576) (hO : OwnC seC w B0 40 4 (.slice p xs.length c) xs) :
    Calls Tryz.prog 91 #[.slice p xs.length c, .string r] w fun e w' => SoIs w.heap.size (bindR xs r) e w' ∧ Below w.heap.size w w' := by
  have HA0 : Hid (Arr (w.alloc (.cells #[.slice none 0 0, .int .i64 0] 105)) w.heap.size 105 [.slice none 0 0, .int .i64 0]) := Lib.hid (Arr.fresh w _ [.slice none 0 0, .int .i64 0])
  have HB0 : Hid (Below w.heap.size w (w.alloc (.cells #[.slice none 0 0, .int .i64 0] 105))) := Lib.hid ((Below.refl _ _).alloc (Nat.le_refl _) _)
  have HO := Lib.hid (fun W (h : Below w.heap.size w W) => hO.on h)
  have i0 := fun code W => spec_ill9 code W
  have i1 := fun W h => spec_seright xs p c W hn (fun x hx => by have := (hw x hx).1; unfold maxLen; omega) h
  have i2 := fun W (hk : okB xs = true) h => spec_at9 xs r p c W hn (okB_iff.1 hk).2.1 h
  have i3 := fun W => spec_res9 r W (by unfold maxLen; omega)
  unfold SaysB at i3
  obtain ⟨n, hxn⟩ : ∃ n, xs.length = n := ⟨_, rfl⟩
  have HN := Lib.hid hxn
  by_cases h1 : 400 < xs.length ∨ 20000 < r.size
  · rw [bnd_size h1]
    rw [hxn] at h1 hn ⊢
    clear hO hw i1 i2 hxn
    by_cases h2 : 400 < n
    · clear h1
      go_enter Tryz.func91, Tryz.ntmps91
      go_wp2_with (first
        | (go_at_call 113; go_fit (i0 _ _); rintro e0 w9 ⟨rfl, hb⟩; have HA9 := Lib.hid (arr9_on HA0.out hb); have HB9 := Lib.hid (HB0.out.trans (hb.mono HB0.out.size)); clear hb; obtain ⟨⟨c0, c1⟩, k0, k1⟩ := arr9_two HA9.out))
      have hE : Arr _ w.heap.size 105 [.slice none 0 0, .int .i64 2] := ((HA9.out.put 0 (.slice none 0 0)).put 1 (.int .i64 2))
      exact bodyPost_ret (v := .agg #[.slice none 0 0, .int .i64 2]) (results_cell_row (P := Tryz.prog) Tryz.results91 _ _ w.heap.size 105 _ (0, 0) _ rfl hE Tryz.underlying105 rfl (by kernel_rfl)) rfl
        ⟨so_ill _ _ _, (HB9.out.setCell (p := ⟨w.heap.size, 0, none⟩) (Nat.le_refl _) _).setCell (p := ⟨w.heap.size, 1, none⟩) (Nat.le_refl _) _⟩
    · have h3 : 20000 < r.size := by omega
      clear h1
      go_enter Tryz.func91, Tryz.ntmps91
      go_wp2_with (first
        | (go_at_call 113; go_fit (i0 _ _); rintro e0 w9 ⟨rfl, hb⟩; have HA9 := Lib.hid (arr9_on HA0.out hb); have HB9 := Lib.hid (HB0.out.trans (hb.mono HB0.out.size)); clear hb; obtain ⟨⟨c0, c1⟩, k0, k1⟩ := arr9_two HA9.out))
      have hE : Arr _ w.heap.size 105 [.slice none 0 0, .int .i64 2] := ((HA9.out.put 0 (.slice none 0 0)).put 1 (.int .i64 2))
      exact bodyPost_ret (v := .agg #[.slice none 0 0, .int .i64 2]) (results_cell_row (P := Tryz.prog) Tryz.results91 _ _ w.heap.size 105 _ (0, 0) _ rfl hE Tryz.underlying105 rfl (by kernel_rfl)) rfl
        ⟨so_ill _ _ _, (HB9.out.setCell (p := ⟨w.heap.size, 0, none⟩) (Nat.le_refl _) _).setCell (p := ⟨w.heap.size, 1, none⟩) (Nat.le_refl _) _⟩
  have g1 : ¬ 400 < n := by omega
  have g2 : ¬ 20000 < r.size := by omega
  by_cases h2 : okB xs = true
  rotate_left
  · rw [bnd_form h1 (.inl (by simpa using h2))]
    rw [show okB xs = false by simpa using h2] at i1
    rw [hxn] at hn i1 HO ⊢
    clear hO hw i2 hxn h1 h2
    go_enter Tryz.func91, Tryz.ntmps91
    go_wp2_with (first
      | (go_at_call 40; go_fit (i1 _ (row_own9 (HO.out _ HB0.out))); rintro e0 w1 ⟨rfl, hb⟩; have HA1 := Lib.hid (arr9_on HA0.out hb); have HB1 := Lib.hid (HB0.out.trans (hb.mono HB0.out.size)); clear hb)
      | (go_at_call 113; go_fit (i0 _ _); rintro e0 w9 ⟨rfl, hb⟩; have HA9 := Lib.hid (arr9_on HA1.out hb); have HB9 := Lib.hid (HB1.out.trans (hb.mono HB1.out.size)); clear hb; obtain ⟨⟨c0, c1⟩, k0, k1⟩ := arr9_two HA9.out))
    have hE : Arr _ w.heap.size 105 [.slice none 0 0, .int .i64 1] := ((HA9.out.put 0 (.slice none 0 0)).put 1 (.int .i64 1))
    exact bodyPost_ret (v := .agg #[.slice none 0 0, .int .i64 1]) (results_cell_row (P := Tryz.prog) Tryz.results91 _ _ w.heap.size 105 _ (0, 0) _ rfl hE Tryz.underlying105 rfl (by kernel_rfl)) rfl
      ⟨so_ill _ _ _, (HB9.out.setCell (p := ⟨w.heap.size, 0, none⟩) (Nat.le_refl _) _).setCell (p := ⟨w.heap.size, 1, none⟩) (Nat.le_refl _) _⟩
  replace i2 := fun W h => i2 W h2 h
  rw [h2] at i1
  by_cases hres : resB r = true
  rotate_left
  · rw [bnd_form h1 (.inr (by simpa using hres))]
    rw [show resB r = false by simpa using hres] at i3
    rw [hxn] at hn i1 HO ⊢
    clear hO hw i2 hxn h1 h2
    go_enter Tryz.func91, Tryz.ntmps91
    go_wp2_with (first
      | (go_at_call 40; go_fit (i1 _ (row_own9 (HO.out _ HB0.out))); rintro e0 w1 ⟨rfl, hb⟩; have HA1 := Lib.hid (arr9_on HA0.out hb); have HB1 := Lib.hid (HB0.out.trans (hb.mono HB0.out.size)); clear hb)
      | (go_at_call 76; go_fit (i3 _); rintro e0 w5 ⟨rfl, h5⟩; subst h5)
      | (go_at_call 113; go_fit (i0 _ _); rintro e0 w9 ⟨rfl, hb⟩; have HA9 := Lib.hid (arr9_on HA1.out hb); have HB9 := Lib.hid (HB1.out.trans (hb.mono HB1.out.size)); clear hb; obtain ⟨⟨c0, c1⟩, k0, k1⟩ := arr9_two HA9.out))
    have hE : Arr _ w.heap.size 105 [.slice none 0 0, .int .i64 1] := ((HA9.out.put 0 (.slice none 0 0)).put 1 (.int .i64 1))
    exact bodyPost_ret (v := .agg #[.slice none 0 0, .int .i64 1]) (results_cell_row (P := Tryz.prog) Tryz.results91 _ _ w.heap.size 105 _ (0, 0) _ rfl hE Tryz.underlying105 rfl (by kernel_rfl)) rfl
      ⟨so_ill _ _ _, (HB9.out.setCell (p := ⟨w.heap.size, 0, none⟩) (Nat.le_refl _) _).setCell (p := ⟨w.heap.size, 1, none⟩) (Nat.le_refl _) _⟩
  have hnf : ¬ (okB xs = false ∨ resB r = false) := by rw [h2, hres]; simp
  rw [hres] at i3
  unfold whereI at i2
  by_cases h3 : hereB r xs = true
  · rw [bnd_there h1 hnf h3]
    rw [if_pos h3] at i2
    have q1 : (0 : Int) ≤ (posS r xs : Int) := by omega
    obtain ⟨P, hP⟩ : ∃ P, posS r xs = P := ⟨_, rfl⟩
    rw [hP] at i2 q1
    rw [hxn] at hn i1 i2 HO ⊢
    clear hO hw hxn h1 h2 hP h3 hnf
    go_enter Tryz.func91, Tryz.ntmps91
    go_wp2_with (first
      | (go_at_call 40; go_fit (i1 _ (row_own9 (HO.out _ HB0.out))); rintro e0 w1 ⟨rfl, hb⟩; have HA1 := Lib.hid (arr9_on HA0.out hb); have HB1 := Lib.hid (HB0.out.trans (hb.mono HB0.out.size)); clear hb)
      | (go_at_call 76; go_fit (i3 _); rintro e0 w5 ⟨rfl, h5⟩; subst h5)
      | (go_at_call 46; go_fit (i2 _ (row_own9 (HO.out _ HB1.out))); rintro e0 w2 ⟨rfl, hb⟩; have HA2 := Lib.hid (arr9_on HA1.out hb); have HB2 := Lib.hid (HB1.out.trans (hb.mono HB1.out.size)); clear hb)
      | (go_at_call 113; go_fit (i0 _ _); rintro e0 w9 ⟨rfl, hb⟩; have HA9 := Lib.hid (arr9_on HA2.out hb); have HB9 := Lib.hid (HB2.out.trans (hb.mono HB2.out.size)); clear hb; obtain ⟨⟨c0, c1⟩, k0, k1⟩ := arr9_two HA9.out))
    have hE : Arr _ w.heap.size 105 [.slice none 0 0, .int .i64 7] := ((HA9.out.put 0 (.slice none 0 0)).put 1 (.int .i64 7))
    exact bodyPost_ret (v := .agg #[.slice none 0 0, .int .i64 7]) (results_cell_row (P := Tryz.prog) Tryz.results91 _ _ w.heap.size 105 _ (0, 0) _ rfl hE Tryz.underlying105 rfl (by kernel_rfl)) rfl
      ⟨so_ill _ _ _, (HB9.out.setCell (p := ⟨w.heap.size, 0, none⟩) (Nat.le_refl _) _).setCell (p := ⟨w.heap.size, 1, none⟩) (Nat.le_refl _) _⟩
  rw [if_neg h3] at i2
  by_cases h4 : xs.length = 5
  · rw [bnd_full h1 hnf h3 h4]
    rw [hxn] at hn i1 i2 HO h4 ⊢
    have q1 : (5 : Int) ≤ (n : Int) := by omega
    clear hO hw hxn h1 h2 h3 hnf h4
    go_enter Tryz.func91, Tryz.ntmps91
    go_wp2_with (first
      | (go_at_call 40; go_fit (i1 _ (row_own9 (HO.out _ HB0.out))); rintro e0 w1 ⟨rfl, hb⟩; have HA1 := Lib.hid (arr9_on HA0.out hb); have HB1 := Lib.hid (HB0.out.trans (hb.mono HB0.out.size)); clear hb)
      | (go_at_call 76; go_fit (i3 _); rintro e0 w5 ⟨rfl, h5⟩; subst h5)
      | (go_at_call 46; go_fit (i2 _ (row_own9 (HO.out _ HB1.out))); rintro e0 w2 ⟨rfl, hb⟩; have HA2 := Lib.hid (arr9_on HA1.out hb); have HB2 := Lib.hid (HB1.out.trans (hb.mono HB1.out.size)); clear hb)
      | (go_at_call 113; go_fit (i0 _ _); rintro e0 w9 ⟨rfl, hb⟩; have HA9 := Lib.hid (arr9_on HA2.out hb); have HB9 := Lib.hid (HB2.out.trans (hb.mono HB2.out.size)); clear hb; obtain ⟨⟨c0, c1⟩, k0, k1⟩ := arr9_two HA9.out))
    have hE : Arr _ w.heap.size 105 [.slice none 0 0, .int .i64 9] := ((HA9.out.put 0 (.slice none 0 0)).put 1 (.int .i64 9))
    exact bodyPost_ret (v := .agg #[.slice none 0 0, .int .i64 9]) (results_cell_row (P := Tryz.prog) Tryz.results91 _ _ w.heap.size 105 _ (0, 0) _ rfl hE Tryz.underlying105 rfl (by kernel_rfl)) rfl
      ⟨so_ill _ _ _, (HB9.out.setCell (p := ⟨w.heap.size, 0, none⟩) (Nat.le_refl _) _).setCell (p := ⟨w.heap.size, 1, none⟩) (Nat.le_refl _) _⟩
  rw [bnd_ok h1 hnf h3 h4]
  have h5 := (okB_iff.1 h2).1
  have hple := pos_le r xs
  have HTL : Hid ((xs.take (posS r xs)).length ≤ 5) := Lib.hid (by rw [List.length_take]; omega)
  obtain ⟨P, hP⟩ : ∃ P, posS r xs = P := ⟨_, rfl⟩
  rw [hP] at hple HTL ⊢
  have HLO : Hid (∀ k (hk : k < xs.length), k < P → Op.bytesLess xs[k].r.toList r.toList = true) := Lib.hid (by subst hP; exact fun k hk h => pos_lo hk h)
  have HAT : Hid (∀ (h : P < xs.length), Op.bytesLess xs[P].r.toList r.toList = false) := Lib.hid (by subst hP; exact fun h => pos_at h)
  obtain ⟨m, hm⟩ : ∃ m, ((xs.take P ++ [newS r]) ++ xs.drop P).length = m := ⟨_, rfl⟩
  have HM := Lib.hid hm
  obtain ⟨R, hR⟩ : ∃ R, (⟨(xs.take P ++ [newS r]) ++ xs.drop P, 0⟩ : SoL) = R := ⟨_, rfl⟩
  rw [hR]
  have HRR := Lib.hid hR
  clear hR
  have hcap : n ≤ c := by
    rcases hO.2 with ⟨h0, h0'⟩ | ⟨g', cap', cur, q1, _, _, q4, _⟩
    · omega
    · injection q1 with _ q2 q3
      subst q3
      omega
  have hpg : (p = none ∧ c = 0 ∧ xs = []) ∨ ∃ g, p = some ⟨g, 0, none⟩ := by
    rcases hO.2 with ⟨h0, h0'⟩ | ⟨g', cap', cur, q1, _, _, q4, _⟩
    · injection h0 with e1 e2 e3
      exact .inl ⟨e1, e3, List.eq_nil_of_length_eq_zero h0'⟩
    · injection q1 with q1
      exact .inr ⟨g', q1⟩
  rw [hxn] at hn i1 i2 HO h4 h5 hple ⊢
  have h6 : ¬ ((5 : Int) ≤ (n : Int)) := by omega
  have q2 : (P : Int) ≤ (n : Int) := by omega
  have q4 : (0 : Int) ≤ (P : Int) := by omega
  have q6 : (n : Int) ≤ (c : Int) := by omega
  have q7 : (P : Int) ≤ (c : Int) := by omega
  clear hO hw h1 h2 hnf h3 hP hres hm
  rcases hpg with ⟨rfl, rfl, hx0⟩ | ⟨g, rfl⟩
  · have HX0 := Lib.hid hx0
    obtain rfl : n = 0 := by rw [hx0] at hxn; exact hxn.symm
    obtain rfl : P = 0 := by omega
    clear hx0 hxn
    go_enter Tryz.func91, Tryz.ntmps91
    go_wp2_with (first
      | (go_at_call 40; go_fit (i1 _ (row_own9 (HO.out _ HB0.out))); rintro e0 w1 ⟨rfl, hb⟩; have HA1 := Lib.hid (arr9_on HA0.out hb); have HB1 := Lib.hid (HB0.out.trans (hb.mono HB0.out.size)); clear hb)
      | (go_at_call 76; go_fit (i3 _); rintro e0 w5 ⟨rfl, h5⟩; subst h5)
      | (go_at_call 46; go_fit (i2 _ (row_own9 (HO.out _ HB1.out))); rintro e0 w2 ⟨rfl, hb⟩; have HA2 := Lib.hid (arr9_on HA1.out hb); have HB2 := Lib.hid (HB1.out.trans (hb.mono HB1.out.size)); clear hb))
    go_loopw [5] (fun iq wr => ∃ k : Nat, k ≤ 0 ∧ iq = .int .i64 k ∧ Arr wr w.heap.size 105 [.slice none 0 0, .int .i64 0] ∧ Below w.heap.size w wr) (fun i _ => 0 - (intOf i).toNat)
    case atStart => exact ⟨0, Nat.zero_le _, rfl, HA2.out, HB2.out⟩
    case round =>
      obtain ⟨k, hk, rfl, hA, hb⟩ := hrel
      have HAr := Lib.hid hA
      have HBr := Lib.hid hb
      have hzd : w.heap.size < wr.heap.size := arr9_lt hA
      clear hA
      obtain rfl : k = 0 := by omega
      clear hb
      go_wp2_with (first
        | (at_builtin; have _ := HV5; refine wpList_plain rfl fun K hK => ?_; refine wp_app_row9 _ _ rfl wr.heap.size v5 (xs.take 0 ++ [newS r]) rfl HV5.out 0 none 0 0 (xs.drop 0) rfl (by rw [HX0.out, List.drop_nil]; exact ownC_nil _ _ _ _ _) (by rw [List.length_append, List.length_take, List.length_drop, HN.out]; first | (simp; done) | (simp; omega)) (by have := HS5.out; omega) ?_; intro v6 w6 hv6 hg6; have HV6 := Lib.hid hv6; have HA6 : Hid (Arr w6 w.heap.size 105 [.slice none 0 0, .int .i64 0]) := Lib.hid ((hg6.block _ (arr9_lt HA5.out) (fun e => by have := HW5.out _ e.symm; omega)).trans HA5.out); have HB6 : Hid (Below w.heap.size w w6) := Lib.hid (HB5.out.grown hg6 HB5.out.size (fun k hk => by have := HW5.out k hk; omega)); clear hv6 hg6; obtain ⟨q6, k6, e6, -⟩ := HV6.out.row seC_len; rw [HM.out] at e6; subst e6; obtain ⟨⟨c0, c1⟩, k0, k1⟩ := arr9_two HA6.out; refine hK _ _ ?_)
        | (at_builtin; have _ := HV4; refine wpList_plain rfl fun K hK => ?_; refine wp_app_one9 _ _ rfl wr.heap.size v4 (xs.take 0) rfl (HV4.out.alloc _) w4.heap.size (newS r) rfl (Arr.fresh w4 40 (seC (newS r))) (by have := HTL.out; omega) (by rw [World.size_alloc]; have := HS4.out; omega) ?_; intro v5 w5 hv5 hg5; have hb4 := own_base HV4.out; have hlt4 := (arr9_lt HA4.out); have HV5 := Lib.hid hv5; have HA5 : Hid (Arr w5 w.heap.size 105 [.slice none 0 0, .int .i64 0]) := Lib.hid ((hg5.block _ (by rw [World.size_alloc]; omega) (fun e => by have := hb4 _ e.symm; omega)).trans (arr9_on HA4.out ((Below.refl _ _).alloc (Nat.le_refl _) _))); have HB5 : Hid (Below w.heap.size w w5) := Lib.hid ((HB4.out.alloc HB4.out.size _).grown hg5 (HB4.out.alloc HB4.out.size _).size (fun k hk => by have := hb4 k hk; omega)); have HW5 := Lib.hid (own_base hv5); have HS5 : Hid (wr.heap.size ≤ w5.heap.size) := Lib.hid (by have := hg5.size; have := HS4.out; rw [World.size_alloc] at *; omega); clear hv5 hg5 hb4; refine hK _ _ ?_)
        | (at_builtin; refine wpList_plain rfl fun K hK => ?_; refine wp_app_row9 _ _ rfl wr.heap.size _ [] rfl (empty_row9 wr) 0 none 0 0 (xs.take 0) rfl (by rw [HX0.out, List.take_nil]; exact ownC_nil _ _ _ _ _) (by have := HTL.out; rw [List.length_nil, Nat.zero_add]; omega) (by simp) ?_; intro v4 w4 hv4 hg4; rw [List.nil_append] at hv4; have HV4 := Lib.hid hv4; have HA4 : Hid (Arr w4 w.heap.size 105 [.slice none 0 0, .int .i64 0]) := Lib.hid ((hg4.block _ (by rw [World.size_alloc]; omega) (fun e => by injection e with e; have e' : wr.heap.size = w.heap.size := e.symm; omega)).trans (arr9_on HAr.out ((Below.refl _ _).alloc (Nat.le_refl _) _))); have HB4 : Hid (Below w.heap.size w w4) := Lib.hid ((HBr.out.alloc HBr.out.size _).grown hg4 (HBr.out.alloc HBr.out.size _).size (fun k hk => by injection hk with hk; have hk' : wr.heap.size = k := hk; omega)); have HS4 : Hid (wr.heap.size ≤ w4.heap.size) := Lib.hid (by have := hg4.size; rw [World.size_alloc] at this; omega); clear hv4 hg4; refine hK _ _ ?_))
      obtain rfl := HM.out
      obtain rfl := HRR.out
      obtain ⟨hE, hO2, hBl⟩ := pass9 (W2 := w) (R := ⟨(xs.take 0 ++ [newS r]) ++ xs.drop 0, 0⟩) HA6.out HB6.out (Nat.le_refl _) hzd HV6.out
      exact bodyPost_ret (v := .agg #[.slice q6 ((xs.take 0 ++ [newS r]) ++ xs.drop 0).length k6, .int .i64 0]) (results_cell_row (P := Tryz.prog) Tryz.results91 _ _ w.heap.size 105 _ (0, 0) _ rfl hE Tryz.underlying105 rfl (by kernel_rfl)) rfl
        ⟨⟨q6, k6, rfl, hO2⟩, hBl⟩
  · clear hxn
    go_enter Tryz.func91, Tryz.ntmps91
    go_wp2_with (first
      | (go_at_call 40; go_fit (i1 _ (row_own9 (HO.out _ HB0.out))); rintro e0 w1 ⟨rfl, hb⟩; have HA1 := Lib.hid (arr9_on HA0.out hb); have HB1 := Lib.hid (HB0.out.trans (hb.mono HB0.out.size)); clear hb)
      | (go_at_call 76; go_fit (i3 _); rintro e0 w5 ⟨rfl, h5⟩; subst h5)
      | (go_at_call 46; go_fit (i2 _ (row_own9 (HO.out _ HB1.out))); rintro e0 w2 ⟨rfl, hb⟩; have HA2 := Lib.hid (arr9_on HA1.out hb); have HB2 := Lib.hid (HB1.out.trans (hb.mono HB1.out.size)); clear hb))
    go_loopw [5] (fun iq wr => ∃ k : Nat, k ≤ P ∧ iq = .int .i64 k ∧ Arr wr w.heap.size 105 [.slice none 0 0, .int .i64 0] ∧ Below w.heap.size w wr) (fun i _ => P - (intOf i).toNat)
    case atStart => exact ⟨0, Nat.zero_le _, rfl, HA2.out, HB2.out⟩
    case round =>
      obtain ⟨k, hk, rfl, hA, hb⟩ := hrel
      have HAr := Lib.hid hA
      have HBr := Lib.hid hb
      have hzd : w.heap.size < wr.heap.size := arr9_lt hA
      clear hA
      by_cases hlt : k < P
      · have hlt1 : k < xs.length := by rw [HN.out]; omega
        obtain ⟨g', hgg, hg, a0, -⟩ := row_se4 (row_own9 (HO.out _ hb)) hlt1
        injection hgg with hgg
        injection hgg with hgg
        subst hgg
        have hbl := HLO.out k hlt1 hlt
        obtain ⟨x, hx⟩ : ∃ x, xs[k] = x := ⟨_, rfl⟩
        rw [hx] at a0 hbl
        clear hb hx
        go_wp2
        go_roundw
        case rel => exact ⟨k + 1, by omega, by go_num, HAr.out, HBr.out⟩
        case measure => simp [intOf]; omega
      · have hkP : k = P := by omega
        subst hkP
        clear hlt
        by_cases hpn : k < n
        · have hlt1 : k < xs.length := by rw [HN.out]; omega
          obtain ⟨g', hgg, hg, a0, -⟩ := row_se4 (row_own9 (HO.out _ hb)) hlt1
          injection hgg with hgg
          injection hgg with hgg
          subst hgg
          have hbl := HAT.out hlt1
          obtain ⟨x, hx⟩ : ∃ x, xs[k] = x := ⟨_, rfl⟩
          rw [hx] at a0 hbl
          have hck : ¬ c = k := by omega
          have hck2 : ¬ ((c : Int) = (k : Int)) := by omega
          clear hb hx
          go_wp2_with (first
            | (at_builtin; have _ := HV5; refine wpList_plain rfl fun K hK => ?_; refine wp_app_sub9 _ _ rfl wr.heap.size v5 (xs.take k ++ [newS r]) rfl HV5.out g (k * 4) (n - k) (c - k) (xs.drop k) rfl (by rw [List.length_drop, HN.out] <;> omega) (fun i hi j hj => by rw [List.length_drop, HN.out] at hi; first | (exfalso; omega) | rw [show (k * 4) + (i * 4 + j) = (k + i) * 4 + j by omega, OwnC.cell seC_len (HO.out _ HB5.out) (k + i) j (by rw [HN.out]; omega) hj, List.getElem_drop]) (by rw [List.length_append, List.length_take, List.length_drop, HN.out]; first | (simp; done) | (simp; omega)) (by have := HS5.out; omega) ?_; intro v6 w6 hv6 hg6; have HV6 := Lib.hid hv6; have HA6 : Hid (Arr w6 w.heap.size 105 [.slice none 0 0, .int .i64 0]) := Lib.hid ((hg6.block _ (arr9_lt HA5.out) (fun e => by have := HW5.out _ e.symm; omega)).trans HA5.out); have HB6 : Hid (Below w.heap.size w w6) := Lib.hid (HB5.out.grown hg6 HB5.out.size (fun k hk => by have := HW5.out k hk; omega)); clear hv6 hg6; obtain ⟨q6, k6, e6, -⟩ := HV6.out.row seC_len; rw [HM.out] at e6; subst e6; obtain ⟨⟨c0, c1⟩, k0, k1⟩ := arr9_two HA6.out; refine hK _ _ ?_)
            | (at_builtin; have _ := HV4; refine wpList_plain rfl fun K hK => ?_; refine wp_app_one9 _ _ rfl wr.heap.size v4 (xs.take k) rfl (HV4.out.alloc _) w4.heap.size (newS r) rfl (Arr.fresh w4 40 (seC (newS r))) (by have := HTL.out; omega) (by rw [World.size_alloc]; have := HS4.out; omega) ?_; intro v5 w5 hv5 hg5; have hb4 := own_base HV4.out; have hlt4 := (arr9_lt HA4.out); have HV5 := Lib.hid hv5; have HA5 : Hid (Arr w5 w.heap.size 105 [.slice none 0 0, .int .i64 0]) := Lib.hid ((hg5.block _ (by rw [World.size_alloc]; omega) (fun e => by have := hb4 _ e.symm; omega)).trans (arr9_on HA4.out ((Below.refl _ _).alloc (Nat.le_refl _) _))); have HB5 : Hid (Below w.heap.size w w5) := Lib.hid ((HB4.out.alloc HB4.out.size _).grown hg5 (HB4.out.alloc HB4.out.size _).size (fun k hk => by have := hb4 k hk; omega)); have HW5 := Lib.hid (own_base hv5); have HS5 : Hid (wr.heap.size ≤ w5.heap.size) := Lib.hid (by have := hg5.size; have := HS4.out; rw [World.size_alloc] at *; omega); clear hv5 hg5 hb4; refine hK _ _ ?_)
            | (at_builtin; refine wpList_plain rfl fun K hK => ?_; refine wp_app_sub9 _ _ rfl wr.heap.size _ [] rfl (empty_row9 wr) g 0 k c (xs.take k) rfl (by rw [List.length_take, HN.out]; omega) (fun i hi j hj => by have hi1 : i < k := (by rw [List.length_take] at hi; omega); rw [Nat.zero_add, OwnC.cell seC_len (HO.out _ (HBr.out.alloc HBr.out.size _)) i j (by rw [HN.out]; omega) hj, List.getElem_take]) (by rw [List.length_take, HN.out]; first | (simp; done) | (simp; omega)) (by simp) ?_; intro v4 w4 hv4 hg4; rw [List.nil_append] at hv4; have HV4 := Lib.hid hv4; have HA4 : Hid (Arr w4 w.heap.size 105 [.slice none 0 0, .int .i64 0]) := Lib.hid ((hg4.block _ (by rw [World.size_alloc]; omega) (fun e => by injection e with e; have e' : wr.heap.size = w.heap.size := e.symm; omega)).trans (arr9_on HAr.out ((Below.refl _ _).alloc (Nat.le_refl _) _))); have HB4 : Hid (Below w.heap.size w w4) := Lib.hid ((HBr.out.alloc HBr.out.size _).grown hg4 (HBr.out.alloc HBr.out.size _).size (fun k hk => by injection hk with hk; have hk' : wr.heap.size = k := hk; omega)); have HS4 : Hid (wr.heap.size ≤ w4.heap.size) := Lib.hid (by have := hg4.size; rw [World.size_alloc] at this; omega); clear hv4 hg4; refine hK _ _ ?_))
          obtain rfl := HM.out
          obtain rfl := HRR.out
          obtain ⟨hE, hO2, hBl⟩ := pass9 (W2 := w) (R := ⟨(xs.take k ++ [newS r]) ++ xs.drop k, 0⟩) HA6.out HB6.out (Nat.le_refl _) hzd HV6.out
          exact bodyPost_ret (v := .agg #[.slice q6 ((xs.take k ++ [newS r]) ++ xs.drop k).length k6, .int .i64 0]) (results_cell_row (P := Tryz.prog) Tryz.results91 _ _ w.heap.size 105 _ (0, 0) _ rfl hE Tryz.underlying105 rfl (by kernel_rfl)) rfl
            ⟨⟨q6, k6, rfl, hO2⟩, hBl⟩
        · obtain rfl : k = n := by omega
          clear hb
          by_cases hc : c = k
          · obtain rfl : k = c := hc.symm
            go_wp2_with (first
              | (at_builtin; have _ := HV5; refine wpList_plain rfl fun K hK => ?_; refine wp_app_sub9 _ _ rfl wr.heap.size v5 (xs.take k ++ [newS r]) rfl HV5.out g 0 0 0 (xs.drop k) rfl (by rw [List.length_drop, HN.out] <;> omega) (fun i hi j hj => by rw [List.length_drop, HN.out] at hi; first | (exfalso; omega) | rw [show 0 + (i * 4 + j) = (k + i) * 4 + j by omega, OwnC.cell seC_len (HO.out _ HB5.out) (k + i) j (by rw [HN.out]; omega) hj, List.getElem_drop]) (by rw [List.length_append, List.length_take, List.length_drop, HN.out]; first | (simp; done) | (simp; omega)) (by have := HS5.out; omega) ?_; intro v6 w6 hv6 hg6; have HV6 := Lib.hid hv6; have HA6 : Hid (Arr w6 w.heap.size 105 [.slice none 0 0, .int .i64 0]) := Lib.hid ((hg6.block _ (arr9_lt HA5.out) (fun e => by have := HW5.out _ e.symm; omega)).trans HA5.out); have HB6 : Hid (Below w.heap.size w w6) := Lib.hid (HB5.out.grown hg6 HB5.out.size (fun k hk => by have := HW5.out k hk; omega)); clear hv6 hg6; obtain ⟨q6, k6, e6, -⟩ := HV6.out.row seC_len; rw [HM.out] at e6; subst e6; obtain ⟨⟨c0, c1⟩, k0, k1⟩ := arr9_two HA6.out; refine hK _ _ ?_)
              | (at_builtin; have _ := HV4; refine wpList_plain rfl fun K hK => ?_; refine wp_app_one9 _ _ rfl wr.heap.size v4 (xs.take k) rfl (HV4.out.alloc _) w4.heap.size (newS r) rfl (Arr.fresh w4 40 (seC (newS r))) (by have := HTL.out; omega) (by rw [World.size_alloc]; have := HS4.out; omega) ?_; intro v5 w5 hv5 hg5; have hb4 := own_base HV4.out; have hlt4 := (arr9_lt HA4.out); have HV5 := Lib.hid hv5; have HA5 : Hid (Arr w5 w.heap.size 105 [.slice none 0 0, .int .i64 0]) := Lib.hid ((hg5.block _ (by rw [World.size_alloc]; omega) (fun e => by have := hb4 _ e.symm; omega)).trans (arr9_on HA4.out ((Below.refl _ _).alloc (Nat.le_refl _) _))); have HB5 : Hid (Below w.heap.size w w5) := Lib.hid ((HB4.out.alloc HB4.out.size _).grown hg5 (HB4.out.alloc HB4.out.size _).size (fun k hk => by have := hb4 k hk; omega)); have HW5 := Lib.hid (own_base hv5); have HS5 : Hid (wr.heap.size ≤ w5.heap.size) := Lib.hid (by have := hg5.size; have := HS4.out; rw [World.size_alloc] at *; omega); clear hv5 hg5 hb4; refine hK _ _ ?_)
              | (at_builtin; refine wpList_plain rfl fun K hK => ?_; refine wp_app_sub9 _ _ rfl wr.heap.size _ [] rfl (empty_row9 wr) g 0 k k (xs.take k) rfl (by rw [List.length_take, HN.out]; omega) (fun i hi j hj => by have hi1 : i < k := (by rw [List.length_take] at hi; omega); rw [Nat.zero_add, OwnC.cell seC_len (HO.out _ (HBr.out.alloc HBr.out.size _)) i j (by rw [HN.out]; omega) hj, List.getElem_take]) (by rw [List.length_take, HN.out]; first | (simp; done) | (simp; omega)) (by simp) ?_; intro v4 w4 hv4 hg4; rw [List.nil_append] at hv4; have HV4 := Lib.hid hv4; have HA4 : Hid (Arr w4 w.heap.size 105 [.slice none 0 0, .int .i64 0]) := Lib.hid ((hg4.block _ (by rw [World.size_alloc]; omega) (fun e => by injection e with e; have e' : wr.heap.size = w.heap.size := e.symm; omega)).trans (arr9_on HAr.out ((Below.refl _ _).alloc (Nat.le_refl _) _))); have HB4 : Hid (Below w.heap.size w w4) := Lib.hid ((HBr.out.alloc HBr.out.size _).grown hg4 (HBr.out.alloc HBr.out.size _).size (fun k hk => by injection hk with hk; have hk' : wr.heap.size = k := hk; omega)); have HS4 : Hid (wr.heap.size ≤ w4.heap.size) := Lib.hid (by have := hg4.size; rw [World.size_alloc] at this; omega); clear hv4 hg4; refine hK _ _ ?_))
            obtain rfl := HM.out
            obtain rfl := HRR.out
            obtain ⟨hE, hO2, hBl⟩ := pass9 (W2 := w) (R := ⟨(xs.take k ++ [newS r]) ++ xs.drop k, 0⟩) HA6.out HB6.out (Nat.le_refl _) hzd HV6.out
            exact bodyPost_ret (v := .agg #[.slice q6 ((xs.take k ++ [newS r]) ++ xs.drop k).length k6, .int .i64 0]) (results_cell_row (P := Tryz.prog) Tryz.results91 _ _ w.heap.size 105 _ (0, 0) _ rfl hE Tryz.underlying105 rfl (by kernel_rfl)) rfl
              ⟨⟨q6, k6, rfl, hO2⟩, hBl⟩
          · have hck2 : ¬ ((c : Int) = (k : Int)) := by omega
            go_wp2_with (first
              | (at_builtin; have _ := HV5; refine wpList_plain rfl fun K hK => ?_; refine wp_app_sub9 _ _ rfl wr.heap.size v5 (xs.take k ++ [newS r]) rfl HV5.out g (k * 4) 0 (c - k) (xs.drop k) rfl (by rw [List.length_drop, HN.out] <;> omega) (fun i hi j hj => by rw [List.length_drop, HN.out] at hi; first | (exfalso; omega) | rw [show (k * 4) + (i * 4 + j) = (k + i) * 4 + j by omega, OwnC.cell seC_len (HO.out _ HB5.out) (k + i) j (by rw [HN.out]; omega) hj, List.getElem_drop]) (by rw [List.length_append, List.length_take, List.length_drop, HN.out]; first | (simp; done) | (simp; omega)) (by have := HS5.out; omega) ?_; intro v6 w6 hv6 hg6; have HV6 := Lib.hid hv6; have HA6 : Hid (Arr w6 w.heap.size 105 [.slice none 0 0, .int .i64 0]) := Lib.hid ((hg6.block _ (arr9_lt HA5.out) (fun e => by have := HW5.out _ e.symm; omega)).trans HA5.out); have HB6 : Hid (Below w.heap.size w w6) := Lib.hid (HB5.out.grown hg6 HB5.out.size (fun k hk => by have := HW5.out k hk; omega)); clear hv6 hg6; obtain ⟨q6, k6, e6, -⟩ := HV6.out.row seC_len; rw [HM.out] at e6; subst e6; obtain ⟨⟨c0, c1⟩, k0, k1⟩ := arr9_two HA6.out; refine hK _ _ ?_)
              | (at_builtin; have _ := HV4; refine wpList_plain rfl fun K hK => ?_; refine wp_app_one9 _ _ rfl wr.heap.size v4 (xs.take k) rfl (HV4.out.alloc _) w4.heap.size (newS r) rfl (Arr.fresh w4 40 (seC (newS r))) (by have := HTL.out; omega) (by rw [World.size_alloc]; have := HS4.out; omega) ?_; intro v5 w5 hv5 hg5; have hb4 := own_base HV4.out; have hlt4 := (arr9_lt HA4.out); have HV5 := Lib.hid hv5; have HA5 : Hid (Arr w5 w.heap.size 105 [.slice none 0 0, .int .i64 0]) := Lib.hid ((hg5.block _ (by rw [World.size_alloc]; omega) (fun e => by have := hb4 _ e.symm; omega)).trans (arr9_on HA4.out ((Below.refl _ _).alloc (Nat.le_refl _) _))); have HB5 : Hid (Below w.heap.size w w5) := Lib.hid ((HB4.out.alloc HB4.out.size _).grown hg5 (HB4.out.alloc HB4.out.size _).size (fun k hk => by have := hb4 k hk; omega)); have HW5 := Lib.hid (own_base hv5); have HS5 : Hid (wr.heap.size ≤ w5.heap.size) := Lib.hid (by have := hg5.size; have := HS4.out; rw [World.size_alloc] at *; omega); clear hv5 hg5 hb4; refine hK _ _ ?_)
              | (at_builtin; refine wpList_plain rfl fun K hK => ?_; refine wp_app_sub9 _ _ rfl wr.heap.size _ [] rfl (empty_row9 wr) g 0 k c (xs.take k) rfl (by rw [List.length_take, HN.out]; omega) (fun i hi j hj => by have hi1 : i < k := (by rw [List.length_take] at hi; omega); rw [Nat.zero_add, OwnC.cell seC_len (HO.out _ (HBr.out.alloc HBr.out.size _)) i j (by rw [HN.out]; omega) hj, List.getElem_take]) (by rw [List.length_take, HN.out]; first | (simp; done) | (simp; omega)) (by simp) ?_; intro v4 w4 hv4 hg4; rw [List.nil_append] at hv4; have HV4 := Lib.hid hv4; have HA4 : Hid (Arr w4 w.heap.size 105 [.slice none 0 0, .int .i64 0]) := Lib.hid ((hg4.block _ (by rw [World.size_alloc]; omega) (fun e => by injection e with e; have e' : wr.heap.size = w.heap.size := e.symm; omega)).trans (arr9_on HAr.out ((Below.refl _ _).alloc (Nat.le_refl _) _))); have HB4 : Hid (Below w.heap.size w w4) := Lib.hid ((HBr.out.alloc HBr.out.size _).grown hg4 (HBr.out.alloc HBr.out.size _).size (fun k hk => by injection hk with hk; have hk' : wr.heap.size = k := hk; omega)); have HS4 : Hid (wr.heap.size ≤ w4.heap.size) := Lib.hid (by have := hg4.size; rw [World.size_alloc] at this; omega); clear hv4 hg4; refine hK _ _ ?_))
            obtain rfl := HM.out
            obtain rfl := HRR.out
            obtain ⟨hE, hO2, hBl⟩ := pass9 (W2 := w) (R := ⟨(xs.take k ++ [newS r]) ++ xs.drop k, 0⟩) HA6.out HB6.out (Nat.le_refl _) hzd HV6.out
            exact bodyPost_ret (v := .agg #[.slice q6 ((xs.take k ++ [newS r]) ++ xs.drop k).length k6, .int .i64 0]) (results_cell_row (P := Tryz.prog) Tryz.results91 _ _ w.heap.size 105 _ (0, 0) _ rfl hE Tryz.underlying105 rfl (by kernel_rfl)) rfl
              ⟨⟨q6, k6, rfl, hO2⟩, hBl⟩
end Go.Proofs.YtafdjjdmcnlddaaGreat

namespace Go.Proofs.YtafdjjdmcnlddaaGreat
set_option linter.unusedSimpArgs false
set_option linter.unusedVariables false
open Go.RowKit Go.Joins

end Go.Proofs.YtafdjjdmcnlddaaGreat

namespace Go.Proofs.YtafdjjdmcnlddaaGreat
set_option linter.unusedSimpArgs false
set_option linter.unusedVariables false
open Go.RowKit Go.Joins

end Go.Proofs.YtafdjjdmcnlddaaGreat

namespace Go.Proofs.YtafdjjdmcnlddaaGreat
set_option linter.unusedSimpArgs false
set_option linter.unusedVariables false
open Go.RowKit Go.Joins

theorem pres_size {xs : List SeL} {r : ByteArray} {p : Int} {s : ByteArray} (h : 400 < xs.length ∨ 20000 < r.size ∨ 20000 < s.size) : presR xs r p s = illS 2 := by
  unfold presR
  by_cases h1 : 20000 < s.size
  · rw [if_pos h1]
  · rw [if_neg h1]
    unfold withR
    rw [if_pos (show 400 < xs.length ∨ 20000 < r.size by omega)]
theorem pres_form {xs : List SeL} {r : ByteArray} {p : Int} {s : ByteArray} (h : ¬ (400 < xs.length ∨ 20000 < r.size ∨ 20000 < s.size)) (h2 : okB xs = false) : presR xs r p s = illS 1 := by
  unfold presR
  rw [if_neg (by omega)]
  unfold withR
  rw [if_neg (show ¬ (400 < xs.length ∨ 20000 < r.size) by omega), if_pos h2]
theorem pres_none {xs : List SeL} {r : ByteArray} {p : Int} {s : ByteArray} (h : ¬ (400 < xs.length ∨ 20000 < r.size ∨ 20000 < s.size)) (h2 : okB xs = true) (h3 : hereB r xs = false) : presR xs r p s = illS 6 := by
  unfold presR
  rw [if_neg (by omega)]
  unfold withR
  rw [if_neg (show ¬ (400 < xs.length ∨ 20000 < r.size) by omega), if_neg (by rw [h2]; decide), if_pos h3]
theorem se_pres {r : ByteArray} {p : Int} {s : ByteArray} (h : resB r = true) : seB ⟨r, true, p, s⟩ = ((decide (-128 ≤ p) && decide (p ≤ 127)) && showB s) := by
  unfold seB
  dsimp only
  rw [h]
  simp
theorem pres_bad {xs : List SeL} {r : ByteArray} {p : Int} {s : ByteArray} (h : ¬ (400 < xs.length ∨ 20000 < r.size ∨ 20000 < s.size)) (h2 : okB xs = true) (h3 : hereB r xs = true) (h4 : ((decide (-128 ≤ p) && decide (p ≤ 127)) && showB s) = false) : presR xs r p s = illS 1 := by
  unfold presR
  rw [if_neg (by omega)]
  unfold withR
  rw [if_neg (show ¬ (400 < xs.length ∨ 20000 < r.size) by omega), if_neg (by rw [h2]; decide), if_neg (show ¬ hereB r xs = false by rw [h3]; decide), if_pos (by rw [se_pres (here_res h2 h3)]; exact h4)]
theorem pres_set {xs : List SeL} {r : ByteArray} {p : Int} {s : ByteArray} (h : ¬ (400 < xs.length ∨ 20000 < r.size ∨ 20000 < s.size)) (h2 : okB xs = true) (h3 : hereB r xs = true) (h4 : ((decide (-128 ≤ p) && decide (p ≤ 127)) && showB s) = true) : presR xs r p s = setR xs ⟨r, true, p, s⟩ := by
  unfold presR
  rw [if_neg (by omega)]
  exact set_with (show ¬ (400 < xs.length ∨ 20000 < r.size) by omega) h2 (fun _ => by rw [se_pres (here_res h2 h3)]; exact h4)
set_option maxRecDepth 100000 in
set_option maxHeartbeats 4000000 in
theorem spec_present (xs : List SeL) (r : ByteArray) (pr : Int) (s : ByteArray) (p : Option Addr) (c B0 : Nat) (w : World) (hn : xs.length ≤ 1048576) (hr : r.size ≤ 1048576) (hs : s.size ≤ 1048576) (hw : ∀ x ∈ xs, x.r.size ≤ 1048576 ∧ x.s.size ≤ 1048576) (hO : OwnC seC w B0 40 4 (.slice p xs.length c) xs) :
    Calls Tryz.prog 93 #[.slice p xs.length c, .string r, .int .i64 pr, .string s] w fun e w' => SoIs w.heap.size (presR xs r pr s) e w' ∧ Below w.heap.size w w' := by
  have HA0 : Hid (Arr (w.alloc (.cells #[.slice none 0 0, .int .i64 0] 105)) w.heap.size 105 [.slice none 0 0, .int .i64 0]) := Lib.hid (Arr.fresh w _ [.slice none 0 0, .int .i64 0])
  have HB0 : Hid (Below w.heap.size w (w.alloc (.cells #[.slice none 0 0, .int .i64 0] 105))) := Lib.hid ((Below.refl _ _).alloc (Nat.le_refl _) _)
  have HO := Lib.hid (fun W (h : Below w.heap.size w W) => hO.on h)
  have i0 := fun code W => spec_ill9 code W
  have i1 := fun W h => spec_seright xs p c W hn (fun x hx => by have := (hw x hx).1; unfold maxLen; omega) h
  have i2 := fun W (hk : okB xs = true) h => spec_at9 xs r p c W hn (okB_iff.1 hk).2.1 h
  have i3 := fun W => spec_is9 pr (-128) 127 W
  have i4 := fun W => spec_show9 s W
  have i5 := fun W (hk : okB xs = true) h => spec_set9 xs ⟨r, true, pr, s⟩ p c B0 W (okB_iff.1 hk).1 (okB_iff.1 hk).2.1 h
  obtain ⟨n, hxn⟩ : ∃ n, xs.length = n := ⟨_, rfl⟩
  by_cases h1 : 400 < xs.length ∨ 20000 < r.size ∨ 20000 < s.size
  · rw [pres_size h1]
    rw [hxn] at h1 hn ⊢
    clear hO hw i1 i2 i3 i4 i5 hxn
    by_cases h2 : 400 < n
    · clear h1
      go_enter Tryz.func93, Tryz.ntmps93
      go_wp2_with (first
        | (go_at_call 113; go_fit (i0 _ _); rintro e0 w9 ⟨rfl, hb⟩; have HA9 := Lib.hid (arr9_on HA0.out hb); have HB9 := Lib.hid (HB0.out.trans (hb.mono HB0.out.size)); clear hb; obtain ⟨⟨c0, c1⟩, k0, k1⟩ := arr9_two HA9.out))
      have hE : Arr _ w.heap.size 105 [.slice none 0 0, .int .i64 2] := ((HA9.out.put 0 (.slice none 0 0)).put 1 (.int .i64 2))
      exact bodyPost_ret (v := .agg #[.slice none 0 0, .int .i64 2]) (results_cell_row (P := Tryz.prog) Tryz.results93 _ _ w.heap.size 105 _ (0, 0) _ rfl hE Tryz.underlying105 rfl (by kernel_rfl)) rfl
        ⟨so_ill _ _ _, (HB9.out.setCell (p := ⟨w.heap.size, 0, none⟩) (Nat.le_refl _) _).setCell (p := ⟨w.heap.size, 1, none⟩) (Nat.le_refl _) _⟩
    · by_cases h3 : 20000 < r.size
      · clear h1
        go_enter Tryz.func93, Tryz.ntmps93
        go_wp2_with (first
          | (go_at_call 113; go_fit (i0 _ _); rintro e0 w9 ⟨rfl, hb⟩; have HA9 := Lib.hid (arr9_on HA0.out hb); have HB9 := Lib.hid (HB0.out.trans (hb.mono HB0.out.size)); clear hb; obtain ⟨⟨c0, c1⟩, k0, k1⟩ := arr9_two HA9.out))
        have hE : Arr _ w.heap.size 105 [.slice none 0 0, .int .i64 2] := ((HA9.out.put 0 (.slice none 0 0)).put 1 (.int .i64 2))
        exact bodyPost_ret (v := .agg #[.slice none 0 0, .int .i64 2]) (results_cell_row (P := Tryz.prog) Tryz.results93 _ _ w.heap.size 105 _ (0, 0) _ rfl hE Tryz.underlying105 rfl (by kernel_rfl)) rfl
          ⟨so_ill _ _ _, (HB9.out.setCell (p := ⟨w.heap.size, 0, none⟩) (Nat.le_refl _) _).setCell (p := ⟨w.heap.size, 1, none⟩) (Nat.le_refl _) _⟩
      · have h4 : 20000 < s.size := by omega
        clear h1
        go_enter Tryz.func93, Tryz.ntmps93
        go_wp2_with (first
          | (go_at_call 113; go_fit (i0 _ _); rintro e0 w9 ⟨rfl, hb⟩; have HA9 := Lib.hid (arr9_on HA0.out hb); have HB9 := Lib.hid (HB0.out.trans (hb.mono HB0.out.size)); clear hb; obtain ⟨⟨c0, c1⟩, k0, k1⟩ := arr9_two HA9.out))
        have hE : Arr _ w.heap.size 105 [.slice none 0 0, .int .i64 2] := ((HA9.out.put 0 (.slice none 0 0)).put 1 (.int .i64 2))
        exact bodyPost_ret (v := .agg #[.slice none 0 0, .int .i64 2]) (results_cell_row (P := Tryz.prog) Tryz.results93 _ _ w.heap.size 105 _ (0, 0) _ rfl hE Tryz.underlying105 rfl (by kernel_rfl)) rfl
          ⟨so_ill _ _ _, (HB9.out.setCell (p := ⟨w.heap.size, 0, none⟩) (Nat.le_refl _) _).setCell (p := ⟨w.heap.size, 1, none⟩) (Nat.le_refl _) _⟩
  have g1 : ¬ 400 < n := by omega
  have g2 : ¬ 20000 < r.size := by omega
  have g3 : ¬ 20000 < s.size := by omega
  by_cases h2 : okB xs = true
  · replace i2 := fun W h => i2 W h2 h
    replace i5 := fun W h => i5 W h2 h
    rw [h2] at i1
    unfold whereI at i2
    by_cases h3 : hereB r xs = true
    · rw [if_pos h3] at i2
      obtain ⟨P, hP⟩ : ∃ P, posS r xs = P := ⟨_, rfl⟩
      rw [hP] at i2
      have q1 : ¬ ((P : Int) < 0) := by omega
      obtain ⟨d, hd⟩ : ∃ b, (decide (-128 ≤ pr) && decide (pr ≤ 127)) = b := ⟨_, rfl⟩
      obtain ⟨f, hf⟩ : ∃ b, showB s = b := ⟨_, rfl⟩
      rw [hd] at i3
      rw [hf] at i4
      cases d
      · rw [pres_bad h1 h2 h3 (by rw [hd]; rfl)]
        rw [hxn] at hn i1 i2 HO ⊢
        clear hO hw hxn h1 h2 h3 hd hf hP i4 i5
        go_enter Tryz.func93, Tryz.ntmps93
        go_wp2_with (first
          | (go_at_call 40; go_fit (i1 _ (row_own9 (HO.out _ HB0.out))); rintro e0 w1 ⟨rfl, hb⟩; have HA1 := Lib.hid (arr9_on HA0.out hb); have HB1 := Lib.hid (HB0.out.trans (hb.mono HB0.out.size)); clear hb)
          | (go_at_call 46; go_fit (i2 _ (row_own9 (HO.out _ HB1.out))); rintro e0 w2 ⟨rfl, hb⟩; have HA2 := Lib.hid (arr9_on HA1.out hb); have HB2 := Lib.hid (HB1.out.trans (hb.mono HB1.out.size)); clear hb)
          | (go_at_call 77; go_fit (i3 _); rintro e0 wz ⟨rfl, hz⟩; subst hz)
          | (go_at_call 113; go_fit (i0 _ _); rintro e0 w9 ⟨rfl, hb⟩; have HA9 := Lib.hid (arr9_on HA2.out hb); have HB9 := Lib.hid (HB2.out.trans (hb.mono HB2.out.size)); clear hb; obtain ⟨⟨c0, c1⟩, k0, k1⟩ := arr9_two HA9.out))
        have hE : Arr _ w.heap.size 105 [.slice none 0 0, .int .i64 1] := ((HA9.out.put 0 (.slice none 0 0)).put 1 (.int .i64 1))
        exact bodyPost_ret (v := .agg #[.slice none 0 0, .int .i64 1]) (results_cell_row (P := Tryz.prog) Tryz.results93 _ _ w.heap.size 105 _ (0, 0) _ rfl hE Tryz.underlying105 rfl (by kernel_rfl)) rfl
          ⟨so_ill _ _ _, (HB9.out.setCell (p := ⟨w.heap.size, 0, none⟩) (Nat.le_refl _) _).setCell (p := ⟨w.heap.size, 1, none⟩) (Nat.le_refl _) _⟩
      · cases f
        · rw [pres_bad h1 h2 h3 (by rw [hd, hf]; rfl)]
          rw [hxn] at hn i1 i2 HO ⊢
          clear hO hw hxn h1 h2 h3 hd hf hP i5
          go_enter Tryz.func93, Tryz.ntmps93
          go_wp2_with (first
            | (go_at_call 40; go_fit (i1 _ (row_own9 (HO.out _ HB0.out))); rintro e0 w1 ⟨rfl, hb⟩; have HA1 := Lib.hid (arr9_on HA0.out hb); have HB1 := Lib.hid (HB0.out.trans (hb.mono HB0.out.size)); clear hb)
            | (go_at_call 46; go_fit (i2 _ (row_own9 (HO.out _ HB1.out))); rintro e0 w2 ⟨rfl, hb⟩; have HA2 := Lib.hid (arr9_on HA1.out hb); have HB2 := Lib.hid (HB1.out.trans (hb.mono HB1.out.size)); clear hb)
            | (go_at_call 77; go_fit (i3 _); rintro e0 wz ⟨rfl, hz⟩; subst hz)
            | (go_at_call 78; have _ := HA2; go_fit (i4 _); rintro e0 w4 ⟨rfl, hb⟩; have HA4 := Lib.hid (arr9_on HA2.out hb); have HB4 := Lib.hid (HB2.out.trans (hb.mono HB2.out.size)); clear hb)
            | (go_at_call 113; go_fit (i0 _ _); rintro e0 w9 ⟨rfl, hb⟩; have HA9 := Lib.hid (arr9_on HA4.out hb); have HB9 := Lib.hid (HB4.out.trans (hb.mono HB4.out.size)); clear hb; obtain ⟨⟨c0, c1⟩, k0, k1⟩ := arr9_two HA9.out))
          have hE : Arr _ w.heap.size 105 [.slice none 0 0, .int .i64 1] := ((HA9.out.put 0 (.slice none 0 0)).put 1 (.int .i64 1))
          exact bodyPost_ret (v := .agg #[.slice none 0 0, .int .i64 1]) (results_cell_row (P := Tryz.prog) Tryz.results93 _ _ w.heap.size 105 _ (0, 0) _ rfl hE Tryz.underlying105 rfl (by kernel_rfl)) rfl
            ⟨so_ill _ _ _, (HB9.out.setCell (p := ⟨w.heap.size, 0, none⟩) (Nat.le_refl _) _).setCell (p := ⟨w.heap.size, 1, none⟩) (Nat.le_refl _) _⟩
        · rw [pres_set h1 h2 h3 (by rw [hd, hf]; rfl)]
          obtain ⟨R, hRR⟩ : ∃ R, setR xs ⟨r, true, pr, s⟩ = R := ⟨_, rfl⟩
          rw [hRR] at i5 ⊢
          unfold seV at i5
          dsimp only at i5
          rw [hxn] at hn i1 i2 i5 HO ⊢
          clear hO hw hxn h1 h2 h3 hd hf hP hRR
          go_enter Tryz.func93, Tryz.ntmps93
          go_wp2_with (first
            | (go_at_call 40; go_fit (i1 _ (row_own9 (HO.out _ HB0.out))); rintro e0 w1 ⟨rfl, hb⟩; have HA1 := Lib.hid (arr9_on HA0.out hb); have HB1 := Lib.hid (HB0.out.trans (hb.mono HB0.out.size)); clear hb)
            | (go_at_call 46; go_fit (i2 _ (row_own9 (HO.out _ HB1.out))); rintro e0 w2 ⟨rfl, hb⟩; have HA2 := Lib.hid (arr9_on HA1.out hb); have HB2 := Lib.hid (HB1.out.trans (hb.mono HB1.out.size)); clear hb)
            | (go_at_call 77; go_fit (i3 _); rintro e0 wz ⟨rfl, hz⟩; subst hz)
            | (go_at_call 78; have _ := HA2; go_fit (i4 _); rintro e0 w4 ⟨rfl, hb⟩; have HA4 := Lib.hid (arr9_on HA2.out hb); have HB4 := Lib.hid (HB2.out.trans (hb.mono HB2.out.size)); clear hb)
            | (go_at_call 114; go_fit (i5 _ (HO.out _ HB4.out)); rintro e0 w5 ⟨⟨q, k, rfl, hv⟩, hb⟩; have HV := Lib.hid hv; have HA5 := Lib.hid (arr9_on HA4.out hb); have HB5 := Lib.hid (HB4.out.trans (hb.mono HB4.out.size)); have hlt := arr9_lt HA4.out; clear hb hv; obtain ⟨⟨c0, c1⟩, k0, k1⟩ := arr9_two HA5.out))
          obtain ⟨hE, hO2, hBl⟩ := pass9 (W2 := w) HA5.out HB5.out (Nat.le_refl _) hlt HV.out
          exact bodyPost_ret (v := .agg #[.slice q R.l.length k, .int .i64 R.c]) (results_cell_row (P := Tryz.prog) Tryz.results93 _ _ w.heap.size 105 _ (0, 0) _ rfl hE Tryz.underlying105 rfl (by kernel_rfl)) rfl
            ⟨⟨q, k, rfl, hO2⟩, hBl⟩
    · rw [if_neg h3] at i2
      rw [pres_none h1 h2 (by simpa using h3)]
      rw [hxn] at hn i1 i2 HO ⊢
      clear hO hw hxn h1 h2 h3 i3 i4 i5
      go_enter Tryz.func93, Tryz.ntmps93
      go_wp2_with (first
        | (go_at_call 40; go_fit (i1 _ (row_own9 (HO.out _ HB0.out))); rintro e0 w1 ⟨rfl, hb⟩; have HA1 := Lib.hid (arr9_on HA0.out hb); have HB1 := Lib.hid (HB0.out.trans (hb.mono HB0.out.size)); clear hb)
        | (go_at_call 46; go_fit (i2 _ (row_own9 (HO.out _ HB1.out))); rintro e0 w2 ⟨rfl, hb⟩; have HA2 := Lib.hid (arr9_on HA1.out hb); have HB2 := Lib.hid (HB1.out.trans (hb.mono HB1.out.size)); clear hb)
        | (go_at_call 113; go_fit (i0 _ _); rintro e0 w9 ⟨rfl, hb⟩; have HA9 := Lib.hid (arr9_on HA2.out hb); have HB9 := Lib.hid (HB2.out.trans (hb.mono HB2.out.size)); clear hb; obtain ⟨⟨c0, c1⟩, k0, k1⟩ := arr9_two HA9.out))
      have hE : Arr _ w.heap.size 105 [.slice none 0 0, .int .i64 6] := ((HA9.out.put 0 (.slice none 0 0)).put 1 (.int .i64 6))
      exact bodyPost_ret (v := .agg #[.slice none 0 0, .int .i64 6]) (results_cell_row (P := Tryz.prog) Tryz.results93 _ _ w.heap.size 105 _ (0, 0) _ rfl hE Tryz.underlying105 rfl (by kernel_rfl)) rfl
        ⟨so_ill _ _ _, (HB9.out.setCell (p := ⟨w.heap.size, 0, none⟩) (Nat.le_refl _) _).setCell (p := ⟨w.heap.size, 1, none⟩) (Nat.le_refl _) _⟩
  · rw [pres_form h1 (by simpa using h2)]
    rw [show okB xs = false by simpa using h2] at i1
    rw [hxn] at hn i1 HO ⊢
    clear hO hw i2 i3 i4 i5 hxn h1 h2
    go_enter Tryz.func93, Tryz.ntmps93
    go_wp2_with (first
      | (go_at_call 40; go_fit (i1 _ (row_own9 (HO.out _ HB0.out))); rintro e0 w1 ⟨rfl, hb⟩; have HA1 := Lib.hid (arr9_on HA0.out hb); have HB1 := Lib.hid (HB0.out.trans (hb.mono HB0.out.size)); clear hb)
      | (go_at_call 113; go_fit (i0 _ _); rintro e0 w9 ⟨rfl, hb⟩; have HA9 := Lib.hid (arr9_on HA1.out hb); have HB9 := Lib.hid (HB1.out.trans (hb.mono HB1.out.size)); clear hb; obtain ⟨⟨c0, c1⟩, k0, k1⟩ := arr9_two HA9.out))
    have hE : Arr _ w.heap.size 105 [.slice none 0 0, .int .i64 1] := ((HA9.out.put 0 (.slice none 0 0)).put 1 (.int .i64 1))
    exact bodyPost_ret (v := .agg #[.slice none 0 0, .int .i64 1]) (results_cell_row (P := Tryz.prog) Tryz.results93 _ _ w.heap.size 105 _ (0, 0) _ rfl hE Tryz.underlying105 rfl (by kernel_rfl)) rfl
      ⟨so_ill _ _ _, (HB9.out.setCell (p := ⟨w.heap.size, 0, none⟩) (Nat.le_refl _) _).setCell (p := ⟨w.heap.size, 1, none⟩) (Nat.le_refl _) _⟩
end Go.Proofs.YtafdjjdmcnlddaaGreat

namespace Go.Proofs.YtafdjjdmcnlddaaGreat
set_option linter.unusedSimpArgs false
set_option linter.unusedVariables false
open Go.RowKit

/-- The first len cells of a slice are bytes that lie below B. -/
def SrcRow (w : World) (B : Nat) (a : Option Addr) (len : Nat) : Prop :=
  ∀ k, k < len → ∃ (b off : Nat) (z : Int), a = some ⟨b, off, none⟩ ∧ b < B ∧ w.cell? ⟨b, off + k, none⟩ = some (.int .u8 z) ∧ 0 ≤ z ∧ z ≤ 255
theorem lt_of_cell {w : World} {b i : Nat} {v : Value} (h : w.cell? ⟨b, i, none⟩ = some v) : b < w.heap.size := by
  rcases Nat.lt_or_ge b w.heap.size with h1 | h1
  · exact h1
  · simp [World.cell?, Array.getElem?_eq_none h1] at h
theorem SrcRow.grown {w w' : World} {B g : Nat} {a : Option Addr} {len : Nat} (h : SrcRow w B a len) (hg : w.grownBy w' (some g)) (hB : B ≤ g) : SrcRow w' B a len := by
  intro k hk
  obtain ⟨b, off, z, ha, hb, hc, h0, h1⟩ := h k hk
  refine ⟨b, off, z, ha, hb, ?_, h0, h1⟩
  rw [World.cell?_of_block (w := w) (hg.block b (lt_of_cell hc) (by simp; omega))]
  exact hc
theorem grown_set {w w1 : World} {g : Nat} (h : w.grownBy w1 (some g)) (i : Nat) (v : Value) : w.grownBy (w1.setCell ⟨g, i, none⟩ v) (some g) :=
  ⟨h.os, h.tape, h.output, by simpa [World.setCell] using h.size, fun k hk hne => (Below.heap_setCell w1 ⟨g, i, none⟩ v k (fun e => hne (by simp at e; rw [e]))).trans (h.block k hk hne)⟩
theorem grown_drew {w w1 : World} {r : Option Nat} (h : w.grownBy w1 r) : w.grownBy w1.drew r := ⟨h.os, h.tape, h.output, h.size, h.block⟩
theorem grown_drewN {w w1 : World} {r : Option Nat} (h : w.grownBy w1 r) (n : Nat) : w.grownBy (w1.drewN n) r := ⟨h.os, h.tape, h.output, h.size, h.block⟩

/-- Block g (not below B) is a source over bytes that lie below B. -/
def Src (w : World) (B g : Nat) : Prop := B ≤ g ∧ ∃ (a : Option Addr) (len cap : Nat) (at_ mix size : Int),
  Arr w g 83 [.slice a len cap, .int .i64 at_, .int .u64 mix, .int .i64 size] ∧ 0 ≤ at_ ∧ at_ ≤ (len : Int) ∧ 0 ≤ mix ∧ mix ≤ 18446744073709551615 ∧ 0 ≤ size ∧ size ≤ 12 ∧ len ≤ 1048576 ∧
  SrcRow w B a len

/-- A call that draws: it answers some v of which P holds; only the source and what is new have turned. -/
def Drew (B g : Nat) (w : World) (P : Value → Prop) (e : Ending) (w' : World) : Prop := ∃ v, e = .returned v ∧ P v ∧ Src w' B g ∧ w.grownBy w' (some g)
def NumIn (most : Int) (v : Value) : Prop := ∃ r : Int, v = .int .i64 r ∧ 0 ≤ r ∧ (r < most ∨ r = 0)

theorem src_done {w w' : World} {B g : Nat} {P : Value → Prop} {v : Value} {a : Option Addr} {len cap : Nat} {at_ mix size : Int} (hP : P v) (hBg : B ≤ g)
    (hA : Arr w' g 83 [.slice a len cap, .int .i64 at_, .int .u64 mix, .int .i64 size]) (a0 : 0 ≤ at_) (a1 : at_ ≤ (len : Int)) (m0 : 0 ≤ mix) (m1 : mix ≤ 18446744073709551615) (s0 : 0 ≤ size) (s1 : size ≤ 12) (hl : len ≤ 1048576)
    (hr : SrcRow w B a len) (hg : w.grownBy w' (some g)) : Drew B g w P (.returned v) w' :=
  ⟨v, rfl, hP, ⟨hBg, a, len, cap, at_, mix, size, hA, a0, a1, m0, m1, s0, s1, hl, hr.grown hg hBg⟩, hg⟩
theorem rem_in {x most : Int} (_ : 0 ≤ x) (h1 : 1 < most) (hm : most ≤ 9223372036854775807) : 0 ≤ wrap64 (x % most) ∧ (wrap64 (x % most) < most ∨ wrap64 (x % most) = 0) := by
  have a := Int.emod_nonneg x (b := most) (by omega)
  have b := Int.emod_lt_of_pos x (b := most) (by omega)
  rw [IntWalk.wrap64_in _ ⟨by omega, by omega⟩]
  exact ⟨a, .inl b⟩
theorem bits_range {op : BinOp} {a b M : Int} (h : bits op IntKind.u64 a b = M) : 0 ≤ M ∧ M ≤ 18446744073709551615 := by
  have hw := wf_bits (k := .u64) op a b
  rw [h] at hw
  simpa [Lit.wf, IntKind.min, IntKind.max, IntKind.signed, IntKind.bits] using hw

set_option maxRecDepth 100000 in
set_option maxHeartbeats 2000000 in
theorem src_n (B g : Nat) (most : Int) (w : World) (hm : most ≤ 9223372036854775807) (hS : Src w B g) :
    Calls Tryz.prog 53 #[.pointer (some ⟨g, 0, none⟩), .int .i64 most] w (Drew B g w (NumIn most)) := by
  by_cases h1 : most ≤ 1
  · have HS := Lib.hid hS
    clear hS
    go_enter Tryz.func53, Tryz.ntmps53
    go_wp2
    go_ret
    exact ⟨_, rfl, ⟨0, rfl, by omega, .inr rfl⟩, HS.out, World.grownBy.refl w _⟩
  · obtain ⟨hBg, a, len, cap, at_, mix, size, hA, ha0, ha1, hx0, hx1, hz0, hz1, hlen, hrow⟩ := hS
    have k0 : w.cell? ⟨g, 0, none⟩ = some (.slice a len cap) := hA.cell 0
    have k1 : w.cell? ⟨g, 1, none⟩ = some (.int .i64 at_) := hA.cell 1
    have k2 : w.cell? ⟨g, 2, none⟩ = some (.int .u64 mix) := hA.cell 2
    have f1 : w.frozen? ⟨g, 1, none⟩ = false := hA.free 1
    have f2 : w.frozen? ⟨g, 2, none⟩ = false := hA.free 2
    have HA := Lib.hid hA
    have HR := Lib.hid hrow
    clear hA hrow
    obtain ⟨M1, hM1⟩ : ∃ M, bits BinOp.xor IntKind.u64 mix (IntKind.u64.wrap (mix * 8192)) = M := ⟨_, rfl⟩
    obtain ⟨b10, b11⟩ := bits_range hM1
    obtain ⟨M2, hM2⟩ : ∃ M, bits BinOp.xor IntKind.u64 M1 (M1 / 128) = M := ⟨_, rfl⟩
    obtain ⟨b20, b21⟩ := bits_range hM2
    obtain ⟨M3, hM3⟩ : ∃ M, bits BinOp.xor IntKind.u64 M2 (IntKind.u64.wrap (M2 * 131072)) = M := ⟨_, rfl⟩
    obtain ⟨b30, b31⟩ := bits_range hM3
    by_cases hend : at_ < (len : Int)
    · obtain ⟨A, rfl⟩ : ∃ A : Nat, at_ = A := ⟨at_.toNat, by omega⟩
      obtain ⟨b, off, z, rfl, hb, hcz, hz00, hz11⟩ := HR.out A (by omega)
      have hbg : b ≠ g := by omega
      have f1 : w.frozen? ⟨g, 1, none⟩ = false := f1
      have kk : ∀ n, ((w.drewN n).setCell ⟨g, 1, none⟩ (.int .i64 ((A : Int) + 1))).cell? ⟨g, 2, none⟩ = some (.int .u64 mix) := fun n => (World.cell?_setCell_other (w.drewN n) ⟨g, 1, none⟩ ⟨g, 2, none⟩ _ (by simp)).trans k2
      have hk3 : ∀ n, (((((w.drewN n).setCell ⟨g, 1, none⟩ (.int .i64 ((A : Int) + 1))).setCell ⟨g, 2, none⟩ (.int .u64 M1)).setCell ⟨g, 2, none⟩ (.int .u64 M2)).setCell ⟨g, 2, none⟩ (.int .u64 M3)).cell? ⟨g, 2, none⟩ = some (.int .u64 M3) := fun n =>
        World.cell?_setCell_same _ _ _ (World.cell?_setCell_same _ _ _ (World.cell?_setCell_same _ _ _ (kk n)))
      have hk2 : ∀ n, ((((w.drewN n).setCell ⟨g, 1, none⟩ (.int .i64 ((A : Int) + 1))).setCell ⟨g, 2, none⟩ (.int .u64 M1)).setCell ⟨g, 2, none⟩ (.int .u64 M2)).cell? ⟨g, 2, none⟩ = some (.int .u64 M2) := fun n =>
        World.cell?_setCell_same _ _ _ (World.cell?_setCell_same _ _ _ (kk n))
      have hk1 : ∀ n, (((w.drewN n).setCell ⟨g, 1, none⟩ (.int .i64 ((A : Int) + 1))).setCell ⟨g, 2, none⟩ (.int .u64 M1)).cell? ⟨g, 2, none⟩ = some (.int .u64 M1) := fun n =>
        World.cell?_setCell_same _ _ _ (kk n)
      go_enter Tryz.func53, Tryz.ntmps53
      go_wp2
      go_quiet (fail)
      go_wp2
      go_quiet (fail)
      go_wp2
      go_region
      go_wp2
      go_region
      go_wp2
      go_region
      go_wp2
      go_ret
      exact src_done ⟨wrap64 ((z + M3 / 1048576) % most), rfl, rem_in (by omega) (by omega) hm⟩ hBg (((Arr.put (w := w.drewN _) HA.out 1 _).put 2 _).put 2 _ |>.put 2 _) (by omega) (by omega) b30 b31 hz0 hz1 hlen HR.out
        (grown_drew (grown_drew (grown_drew (grown_set (grown_set (grown_set (grown_set (grown_drewN (World.grownBy.refl w _) _) _ _) _ _) _ _) _ _))))
    · have hk3 : ∀ n, ((((w.drewN n).setCell ⟨g, 2, none⟩ (.int .u64 M1)).setCell ⟨g, 2, none⟩ (.int .u64 M2)).setCell ⟨g, 2, none⟩ (.int .u64 M3)).cell? ⟨g, 2, none⟩ = some (.int .u64 M3) := fun n =>
        World.cell?_setCell_same _ _ _ (World.cell?_setCell_same _ _ _ (World.cell?_setCell_same (w.drewN n) _ _ k2))
      go_enter Tryz.func53, Tryz.ntmps53
      go_wp2
      go_quiet (fail)
      go_wp2
      go_region
      go_wp2
      go_region
      go_wp2
      go_region
      go_wp2
      go_ret
      have hgr : w.grownBy ((((w.drewN (nq + 1)).setCell ⟨g, 2, none⟩ (.int .u64 M1)).setCell ⟨g, 2, none⟩ (.int .u64 M2)).setCell ⟨g, 2, none⟩ (.int .u64 M3)).drew.drew (some g) :=
        grown_drew (grown_drew (grown_set (grown_set (grown_set (grown_drewN (World.grownBy.refl w _) _) _ _) _ _) _ _))
      have hA' : Arr (w.drewN (nq + 1)) g 83 [.slice a len cap, .int .i64 at_, .int .u64 mix, .int .i64 size] := HA.out
      refine ⟨_, rfl, ⟨wrap64 (M3 / 1048576 % most), rfl, ?_⟩, ⟨hBg, a, len, cap, at_, M3, size, ((hA'.put 2 _).put 2 _).put 2 _, ha0, ha1, b30, b31, hz0, hz1, hlen, HR.out.grown hgr hBg⟩, hgr⟩
      exact rem_in (by omega) (by omega) hm

def BoolIn (v : Value) : Prop := ∃ b : Bool, v = .bool b
theorem src_one (B g : Nat) (of : Int) (w : World) (hm : of ≤ 9223372036854775807) (hS : Src w B g) :
    Calls Tryz.prog 55 #[.pointer (some ⟨g, 0, none⟩), .int .i64 of] w (Drew B g w BoolIn) := by
  have HS := Lib.hid hS
  clear hS
  go_enter Tryz.func55, Tryz.ntmps55
  go_wp2_with (go_at_call 53; refine (src_n B g of _ hm HS.out).mono ?_; rintro e w1 ⟨_, rfl, ⟨r, rfl, h0, h1⟩, hS1, hg1⟩)
  all_goals
    go_ret
    exact ⟨_, rfl, ⟨_, rfl⟩, hS1, hg1⟩

theorem SrcRow.below {w w' : World} {B : Nat} {a : Option Addr} {len : Nat} (h : SrcRow w B a len) (hb : Below B w w') : SrcRow w' B a len := by
  intro k hk
  obtain ⟨b, off, z, ha, hB, hc, h0, h1⟩ := h k hk
  exact ⟨b, off, z, ha, hB, (hb.cell (p := ⟨b, off + k, none⟩) hB).trans hc, h0, h1⟩
theorem info_u8d : (Tryz.prog.info? 5).map (fun i => (i.zero, i.size, i.bytes)) = some (some (.int .u8 0), 1, 1) := by kernel_rfl
theorem grown_alloc {w w1 : World} {r : Option Nat} (h : w.grownBy w1 r) (o : Obj) : w.grownBy (w1.alloc o) r :=
  ⟨h.os, h.tape, h.output, Nat.le_trans h.size (by simp), fun k hk hne => (Below.heap_alloc w1 o k (Nat.lt_of_lt_of_le hk h.size)).trans (h.block k hk hne)⟩
theorem Arr.alloc {w : World} {b t : Nat} {cs : List Value} (h : Arr w b t cs) (o : Obj) : Arr (w.alloc o) b t cs := by
  have hlt : b < w.heap.size := by
    rcases Nat.lt_or_ge b w.heap.size with h1 | h1
    · exact h1
    · unfold Arr at h; rw [Array.getElem?_eq_none h1] at h; cases h
  exact (Below.heap_alloc w o b hlt).trans h
theorem Src.alloc {w : World} {B g : Nat} (h : Src w B g) (o : Obj) : Src (w.alloc o) B g := by
  obtain ⟨hBg, a, len, cap, at_, mix, size, hA, h1, h2, h3, h4, h5, h6, h7, hr⟩ := h
  refine ⟨hBg, a, len, cap, at_, mix, size, hA.alloc o, h1, h2, h3, h4, h5, h6, h7, ?_⟩
  intro k hk
  obtain ⟨b, off, z, ha, hB, hc, h0, h1⟩ := hr k hk
  exact ⟨b, off, z, ha, hB, (World.cell?_alloc_lt w o ⟨b, off + k, none⟩ (lt_of_cell hc)).trans hc, h0, h1⟩
/-- What is owned elsewhere has grown: the source stands. -/
theorem Src.other {w w' : World} {B g : Nat} {r : Option Nat} (h : Src w B g) (hg : w.grownBy w' r) (hne : ∀ q, r = some q → q ≠ g) (hlt : g < w.heap.size) (hr : ∀ q, r = some q → B ≤ q) : Src w' B g := by
  obtain ⟨hBg, a, len, cap, at_, mix, size, hA, h1, h2, h3, h4, h5, h6, h7, hrow⟩ := h
  refine ⟨hBg, a, len, cap, at_, mix, size, (hg.block g hlt (fun e => hne g e.symm rfl)).trans hA, h1, h2, h3, h4, h5, h6, h7, ?_⟩
  intro k hk
  obtain ⟨b, off, z, ha, hB, hc, h0, h1⟩ := hrow k hk
  refine ⟨b, off, z, ha, hB, ?_, h0, h1⟩
  rw [World.cell?_of_block (w := w) (hg.block b (lt_of_cell hc) (fun e => by have := hr b e.symm; omega))]
  exact hc
theorem grown_same {w w1 w2 : World} {r : Option Nat} (h : w.grownBy w1 r) (k : w1.grownBy w2 r) : w.grownBy w2 r :=
  ⟨k.os.trans h.os, k.tape.trans h.tape, k.output.trans h.output, Nat.le_trans h.size k.size, fun i hi hne => (k.block i (Nat.lt_of_lt_of_le hi h.size) hne).trans (h.block i hi hne)⟩
/-- A row of the call's own has grown besides. -/
theorem grown_over {w w1 w2 : World} {r s : Option Nat} (h : w.grownBy w1 r) (k : w1.grownBy w2 s) (hs : ∀ q, s = some q → w.heap.size ≤ q) : w.grownBy w2 r :=
  ⟨k.os.trans h.os, k.tape.trans h.tape, k.output.trans h.output, Nat.le_trans h.size k.size, fun i hi hne => (k.block i (Nat.lt_of_lt_of_le hi h.size) (fun e => by have := hs i e.symm; omega)).trans (h.block i hi hne)⟩
/-- A source has been made. -/
def SrcMade (w : World) (e : Ending) (w' : World) : Prop := e = .returned (.pointer (some ⟨w.heap.size, 0, none⟩)) ∧ Src w' w.heap.size w.heap.size ∧ Below w.heap.size w w'

def SrcMadeB (B : Nat) (w : World) (e : Ending) (w' : World) : Prop := e = .returned (.pointer (some ⟨w.heap.size, 0, none⟩)) ∧ Src w' B w.heap.size ∧ Below w.heap.size w w'
theorem wrap_range {a M : Int} (h : IntKind.u64.wrap a = M) : 0 ≤ M ∧ M ≤ 18446744073709551615 := by
  rw [wrap_u64] at h
  omega

set_option maxRecDepth 100000 in
set_option maxHeartbeats 2000000 in
theorem src_sourceB (B : Nat) (a : Option Addr) (len cap : Nat) (w : World) (hlen : len ≤ 1048576) (hB : B ≤ w.heap.size) (hrow : SrcRow w B a len) :
    Calls Tryz.prog 29 #[.slice a len cap] w (SrcMadeB B w) := by
  have HR := Lib.hid hrow
  clear hrow
  go_enter Tryz.func29, Tryz.ntmps29
  go_wp2
  go_loopw [4] (fun i wr => ∃ (k : Nat) (mix : Int), i = .int .i64 (k : Int) ∧ k ≤ len ∧ k ≤ 64 ∧ 0 ≤ mix ∧ mix ≤ 18446744073709551615 ∧ Arr wr w.heap.size 83 [.slice a len cap, .int .i64 0, .int .u64 mix, .int .i64 0] ∧ Below w.heap.size w wr)
    (fun i _ => 64 - (intOf i).toNat)
  case atStart => exact ⟨0, 88172645463325252, rfl, by omega, by omega, by omega, by omega, Arr.fresh w _ [.slice a len cap, .int .i64 0, .int .u64 88172645463325252, .int .i64 0], (Below.refl _ _).alloc (Nat.le_refl _) _⟩
  case round =>
    obtain ⟨k, mix, rfl, hk, hk64, hm0, hm1, hA, hbel⟩ := hrel
    have k2 : wr.cell? ⟨w.heap.size, 2, none⟩ = some (.int .u64 mix) := hA.cell 2
    have k3 : wr.cell? ⟨w.heap.size, 3, none⟩ = some (.int .i64 0) := hA.cell 3
    have f2 : wr.frozen? ⟨w.heap.size, 2, none⟩ = false := hA.free 2
    have f3 : wr.frozen? ⟨w.heap.size, 3, none⟩ = false := hA.free 3
    have HA := Lib.hid hA
    clear hA
    by_cases hlt : k < len ∧ k < 64
    · obtain ⟨hl, h64⟩ := hlt
      obtain ⟨b, off, z, rfl, hb, hcz, hz0, hz1⟩ := (HR.out.below (hbel.mono hB)) k hl
      have hbne : b ≠ w.heap.size := by omega
      go_wp2
      go_region
      go_wp2
      go_roundw
      case rel =>
        obtain ⟨M, hM⟩ : ∃ M, IntKind.u64.wrap (bits BinOp.xor IntKind.u64 mix z * 1099511628211) = M := ⟨_, rfl⟩
        obtain ⟨r0, r1⟩ := wrap_range hM
        rw [hM]
        exact ⟨k + 1, M, by go_num, by omega, by omega, r0, r1, HA.out.put 2 _, (hbel.setCell (Nat.le_refl _) _).drew⟩
      case measure => simp [intOf]; omega
    · have hA3 : ∀ x : Int, (wr.setCell ⟨w.heap.size, 3, none⟩ (.int .i64 x)).cell? ⟨w.heap.size, 3, none⟩ = some (.int .i64 x) := fun x => World.cell?_setCell_same _ _ _ k3
      by_cases hbig : 12 < (len : Int) / 20
      · by_cases hl : k < len
        · have h64 : ¬ k < 64 := fun h => hlt ⟨hl, h⟩
          clear hlt
          go_wp2
          go_ret
          exact ⟨rfl, ⟨hB, a, len, cap, 0, mix, 12, (HA.out.put 3 _).put 3 _, by omega, by omega, hm0, hm1, by omega, by omega, hlen, HR.out.below (((hbel.setCell (Nat.le_refl _) _).setCell (Nat.le_refl _) _).mono hB)⟩, (hbel.setCell (Nat.le_refl _) _).setCell (Nat.le_refl _) _⟩
        · omega
      · by_cases hl : k < len
        · have h64 : ¬ k < 64 := fun h => hlt ⟨hl, h⟩
          clear hlt
          go_wp2
          go_ret
          exact ⟨rfl, ⟨hB, a, len, cap, 0, mix, _, HA.out.put 3 _, by omega, by omega, hm0, hm1, by omega, by omega, hlen, HR.out.below ((hbel.setCell (Nat.le_refl _) _).mono hB)⟩, hbel.setCell (Nat.le_refl _) _⟩
        · clear hlt
          go_wp2
          go_ret
          exact ⟨rfl, ⟨hB, a, len, cap, 0, mix, _, HA.out.put 3 _, by omega, by omega, hm0, hm1, by omega, by omega, hlen, HR.out.below ((hbel.setCell (Nat.le_refl _) _).mono hB)⟩, hbel.setCell (Nat.le_refl _) _⟩
theorem src_source (a : Option Addr) (len cap : Nat) (w : World) (hlen : len ≤ 1048576) (hrow : SrcRow w w.heap.size a len) :
    Calls Tryz.prog 29 #[.slice a len cap] w (SrcMade w) := src_sourceB w.heap.size a len cap w hlen (Nat.le_refl _) hrow

/-- Some bytes, at most so many. -/
def StrIn (most : Nat) (v : Value) : Prop := ∃ s : ByteArray, v = .string s ∧ s.size ≤ most

/-- A slice of bytes that came in is a row of bytes. -/
theorem srcRow_of {w : World} {x : Addr} {zs : List Int} {len : Nat} (hl : len ≤ zs.length) (hc : ∀ i, i < zs.length → w.cell? (x.add i) = some (.int .u8 (zs.getD i 0))) (hw : ∀ n ∈ zs, (Lit.int .u8 n).wf = true) : SrcRow w w.heap.size (some x) len := by
  intro k hk
  obtain ⟨b, off, rfl, hcell⟩ := ints_at hc (show 0 < zs.length by omega)
  have hk' : k < zs.length := by omega
  have h1 := hcell k hk'
  have hmem : zs.getD k 0 ∈ zs := by
    rw [List.getD_eq_getElem?_getD, List.getElem?_eq_getElem hk']
    exact List.getElem_mem hk'
  have hb := hw _ hmem
  have hr : 0 ≤ zs.getD k 0 ∧ zs.getD k 0 ≤ 255 := by simpa [Lit.wf, IntKind.min, IntKind.max, IntKind.signed, IntKind.bits] using hb
  exact ⟨b, off, _, rfl, lt_of_cell h1, h1, hr.1, hr.2⟩
theorem srcRow_nil {w : World} {B : Nat} {a : Option Addr} : SrcRow w B a 0 := fun k hk => by omega
end Go.Proofs.YtafdjjdmcnlddaaGreat

namespace Go.Proofs.YtafdjjdmcnlddaaGreat
set_option linter.unusedSimpArgs false
set_option linter.unusedVariables false
open Go.RowKit

theorem Arr.other {w w' : World} {b t : Nat} {cs : List Value} {r : Option Nat} (h : Arr w b t cs) (hg : w.grownBy w' r) (hne : r ≠ some b) : Arr w' b t cs := by
  have hlt : b < w.heap.size := by
    rcases Nat.lt_or_ge b w.heap.size with h1 | h1
    · exact h1
    · unfold Arr at h; rw [Array.getElem?_eq_none h1] at h; cases h
  exact (hg.block b hlt (fun e => hne e.symm)).trans h

theorem madeCells_zero (n : Nat) : (madeCells #[Value.int .u8 0] n).toList = (List.replicate n (0 : UInt8)).map byteV := by
  rw [List.map_replicate]
  apply List.ext_getElem
  · simp [size_madeCells]
  · intro i h1 h2
    simp [madeCells, byteV, Nat.mod_one]
/-- string(make([]byte, n)). -/
theorem run_string_made {P : Program} (w : World) (src dst e n : Nat) (hs : P.underlying src = some (.slice e)) (he : P.underlying e = some (.int .u8)) (hd : P.underlying dst = some .string) :
    (convert src dst (.slice (some ⟨w.heap.size, 0, none⟩) n n)).run P (w.alloc (.cells (madeCells #[.int .u8 0] n) e)) = .ok (.string (strOf (List.replicate n 0))) (w.alloc (.cells (madeCells #[.int .u8 0] n) e)) := by
  have hA : Arr (w.alloc (.cells (madeCells #[.int .u8 0] n) e)) w.heap.size e (madeCells #[.int .u8 0] n).toList := heap_alloc_new w _
  refine run_string_arr (P := P) _ src dst e w.heap.size e n n _ (List.replicate n 0) hA ?_ (by simp) hs he hd
  unfold Heads
  rw [madeCells_zero]
  exact List.take_of_length_le (by simp)
theorem Src.lt {w : World} {B g : Nat} (h : Src w B g) : g < w.heap.size := by
  obtain ⟨_, a, len, cap, at_, mix, size, hA, _⟩ := h
  exact lt_of_cell (hA.cell 0)

theorem SrcRow.heap {w W : World} {B : Nat} {a : Option Addr} {len : Nat} (h : SrcRow w B a len) (hh : W.heap = w.heap) : SrcRow W B a len := by
  intro k hk
  obtain ⟨b, off, z, ha, hB, hc, h0, h1⟩ := h k hk
  exact ⟨b, off, z, ha, hB, by rw [← hc]; unfold World.cell?; rw [hh], h0, h1⟩
theorem SrcRow.lift {w w' : World} {B B' : Nat} {a : Option Addr} {len : Nat} (h : SrcRow w B a len) (hb : Below B w w') (hB : B ≤ B') : SrcRow w' B' a len := by
  intro k hk
  obtain ⟨b, off, z, ha, hlt, hc, h0, h1⟩ := h k hk
  exact ⟨b, off, z, ha, by omega, (hb.cell (p := ⟨b, off + k, none⟩) hlt).trans hc, h0, h1⟩

end Go.Proofs.YtafdjjdmcnlddaaGreat

namespace Go.Proofs.YtafdjjdmcnlddaaGreat
set_option linter.unusedSimpArgs false
set_option linter.unusedVariables false
open Go.RowKit

/-- A row of strings, each of at most M bytes. -/
def StrRow (w : World) (b n M : Nat) : Prop := ∀ j, j < n → ∃ s : ByteArray, w.cell? ⟨b, j, none⟩ = some (.string s) ∧ s.size ≤ M
theorem strRow_new (w : World) (t M : Nat) (ss : List ByteArray) (h : ∀ s ∈ ss, s.size ≤ M) : StrRow (w.alloc (.cells (ss.map Value.string).toArray t)) w.heap.size ss.length M := by
  intro j hj
  refine ⟨ss[j], ?_, h _ (List.getElem_mem hj)⟩
  rw [(Arr.fresh w t (ss.map Value.string)).cell]
  simp [List.getElem?_eq_getElem hj]
set_option maxHeartbeats 1000000 in
theorem src_pick (B g b n M : Nat) (w : World) (hn0 : 1 ≤ n) (hn : n ≤ 100) (hS : Src w B g) (hbg : b ≠ g) (hrow : StrRow w b n M) :
    Calls Tryz.prog 56 #[.pointer (some ⟨g, 0, none⟩), .slice (some ⟨b, 0, none⟩) n n] w (Drew B g w (StrIn M)) := by
  have HS := Lib.hid hS
  have HR := Lib.hid hrow
  clear hS hrow
  go_enter Tryz.func56, Tryz.ntmps56
  go_wp2_with fail
  refine (src_n B g (n : Int) _ (by omega) HS.out).mono ?_
  rintro e w1 ⟨_, rfl, ⟨r, rfl, h0, h1⟩, hS1, hg1⟩
  obtain ⟨R, rfl⟩ : ∃ R : Nat, r = R := ⟨r.toNat, by omega⟩
  have hR : R < n := by omega
  obtain ⟨s, hs, hM⟩ := HR.out R hR
  have hc : w1.cell? ⟨b, R, none⟩ = some (.string s) := by
    rw [World.cell?_of_block (w := w) (hg1.block b (lt_of_cell hs) (fun e => hbg (by injection e)))]
    exact hs
  clear h1
  go_wp2
  go_ret
  exact ⟨_, rfl, ⟨s, rfl, hM⟩, hS1, hg1⟩
theorem grown_new {w w1 : World} {r : Option Nat} (h : w.grownBy w1 r) (b i : Nat) (v : Value) (hb : w.heap.size ≤ b) : w.grownBy (w1.setCell ⟨b, i, none⟩ v) r :=
  ⟨h.os, h.tape, h.output, by simpa [World.setCell] using h.size, fun k hk hne => (Below.heap_setCell w1 ⟨b, i, none⟩ v k (by simp; omega)).trans (h.block k hk hne)⟩
theorem grown_setb (w : World) (b i : Nat) (v : Value) : w.grownBy (w.setCell ⟨b, i, none⟩ v) (some b) := grown_set (World.grownBy.refl w _) i v
theorem Src.set {w : World} {B g : Nat} (h : Src w B g) (b i : Nat) (v : Value) (hne : b ≠ g) (hB : B ≤ b) : Src (w.setCell ⟨b, i, none⟩ v) B g :=
  h.other (grown_setb w b i v) (fun q e => by injection e; omega) h.lt (fun q e => by injection e; omega)
theorem Src.on {w w1 : World} {B g : Nat} (h : Src w B g) (hb : Below w.heap.size w w1) : Src w1 B g := by
  obtain ⟨hBg, a, len, cap, at_, mix, size, hA, h1, h2, h3, h4, h5, h6, h7, hrow⟩ := id h
  refine ⟨hBg, a, len, cap, at_, mix, size, arr_below hA hb, h1, h2, h3, h4, h5, h6, h7, ?_⟩
  intro k hk
  obtain ⟨b, off, z, ha, hB, hc, h0, h1⟩ := hrow k hk
  exact ⟨b, off, z, ha, hB, (hb.cell (p := ⟨b, off + k, none⟩) (lt_of_cell hc)).trans hc, h0, h1⟩
theorem grown_on {w w1 w2 : World} {r : Option Nat} (h : w.grownBy w1 r) (hb : Below w1.heap.size w1 w2) : w.grownBy w2 r :=
  ⟨hb.os.trans h.os, hb.tape.trans h.tape, hb.output.trans h.output, Nat.le_trans h.size hb.size, fun k hk hne => (hb.block k (Nat.lt_of_lt_of_le hk h.size)).trans (h.block k hk hne)⟩
theorem strRow_at (w : World) (t M b : Nat) (ss : List ByteArray) (hb : b = w.heap.size) (h : ∀ s ∈ ss, s.size ≤ M) : StrRow (w.alloc (.cells (ss.map Value.string).toArray t)) b ss.length M := by
  subst hb
  exact strRow_new w t M ss h
theorem below_grown {B g : Nat} {w w1 w2 : World} (hb : Below B w w1) (hB : B ≤ w1.heap.size) (hg : w1.grownBy w2 (some g)) (hg' : B ≤ g) : Below B w w2 :=
  hb.grown hg hB (fun k hk => by simp at hk; omega)
end Go.Proofs.YtafdjjdmcnlddaaGreat

namespace Go.Proofs.YtafdjjdmcnlddaaGreat
set_option linter.unusedSimpArgs false
set_option linter.unusedVariables false
open Go.ChangeShapes Go.WideShapes Go.ChangeAt Go.RowKit Go.Joins

/-- A stanza: kind, type, from, to, id, body. -/
structure MsL where
  k : ByteArray
  t : ByteArray
  f : ByteArray
  o : ByteArray
  n : Int
  b : ByteArray
instance : Inhabited MsL := ⟨⟨ByteArray.empty, ByteArray.empty, ByteArray.empty, ByteArray.empty, 0, ByteArray.empty⟩⟩
def msC (x : MsL) : List Value := [.string x.k, .string x.t, .string x.f, .string x.o, .int .i64 x.n, .string x.b]
def msV (x : MsL) : Value := .agg #[.string x.k, .string x.t, .string x.f, .string x.o, .int .i64 x.n, .string x.b]
theorem msC_len (x : MsL) : (msC x).length = 6 := rfl
theorem msC_one (x : MsL) : ∀ u ∈ msC x, u.oneCell' = true := by
  intro u hu
  simp [msC] at hu
  rcases hu with rfl | rfl | rfl | rfl | rfl | rfl <;> rfl
/-- Strings and numbers as the machine has them. -/
def MsL.wf (x : MsL) : Prop := x.k.size ≤ maxLen ∧ x.t.size ≤ maxLen ∧ x.f.size ≤ maxLen ∧ x.o.size ≤ maxLen ∧ (Lit.int .i64 x.n).wf = true ∧ x.b.size ≤ maxLen
/-- Texts that a law lets in. -/
def MsL.le (m : Nat) (x : MsL) : Prop := x.k.size ≤ m ∧ x.t.size ≤ m ∧ x.f.size ≤ m ∧ x.o.size ≤ m ∧ x.b.size ≤ m
theorem row_ms6 {w : World} {p : Option Addr} {xs : List MsL} (h : RowC msC 6 w p xs) {i : Nat} (hi : i < xs.length) : ∃ g, p = some ⟨g, 0, none⟩ ∧ g < w.heap.size ∧ w.cell? ⟨g, i * 6, none⟩ = some (.string xs[i].k) ∧ w.cell? ⟨g, i * 6 + 1, none⟩ = some (.string xs[i].t) ∧ w.cell? ⟨g, i * 6 + 2, none⟩ = some (.string xs[i].f) ∧ w.cell? ⟨g, i * 6 + 3, none⟩ = some (.string xs[i].o) ∧ w.cell? ⟨g, i * 6 + 4, none⟩ = some (.int .i64 xs[i].n) ∧ w.cell? ⟨g, i * 6 + 5, none⟩ = some (.string xs[i].b) := by
  obtain ⟨g, h1, h2, h3⟩ := h (List.ne_nil_of_length_pos (by omega))
  exact ⟨g, h1, h2, h3 i hi 0 (by decide), h3 i hi 1 (by decide), h3 i hi 2 (by decide), h3 i hi 3 (by decide), h3 i hi 4 (by decide), h3 i hi 5 (by decide)⟩
end Go.Proofs.YtafdjjdmcnlddaaGreat

namespace Go.Proofs.YtafdjjdmcnlddaaGreat
set_option linter.unusedSimpArgs false
set_option linter.unusedVariables false
open Go.RowKit

abbrev Both_ms (a b i : Nat) (x : MsL) (wr W : World) : Prop := ((W.cell? ⟨a, i * 6, none⟩ = some (.string x.k) ∧ W.cell? ⟨a, i * 6 + 1, none⟩ = some (.string x.t) ∧ W.cell? ⟨a, i * 6 + 2, none⟩ = some (.string x.f) ∧ W.cell? ⟨a, i * 6 + 3, none⟩ = some (.string x.o) ∧ W.cell? ⟨a, i * 6 + 4, none⟩ = some (.int .i64 x.n) ∧ W.cell? ⟨a, i * 6 + 5, none⟩ = some (.string x.b)) ∧ (W.cell? ⟨b, i * 6, none⟩ = some (.string x.k) ∧ W.cell? ⟨b, i * 6 + 1, none⟩ = some (.string x.t) ∧ W.cell? ⟨b, i * 6 + 2, none⟩ = some (.string x.f) ∧ W.cell? ⟨b, i * 6 + 3, none⟩ = some (.string x.o) ∧ W.cell? ⟨b, i * 6 + 4, none⟩ = some (.int .i64 x.n) ∧ W.cell? ⟨b, i * 6 + 5, none⟩ = some (.string x.b))) ∧ (Below wr.heap.size wr W ∧ a < wr.heap.size ∧ b < wr.heap.size)
theorem row_ms {w : World} {p : Option Addr} {xs : List MsL} (h : RowC msC 6 w p xs) {i : Nat} (hi : i < xs.length) : ∃ g, p = some ⟨g, 0, none⟩ ∧ g < w.heap.size ∧ w.cell? ⟨g, i * 6, none⟩ = (msC xs[i])[0]? ∧ w.cell? ⟨g, i * 6 + 1, none⟩ = (msC xs[i])[1]? ∧ w.cell? ⟨g, i * 6 + 2, none⟩ = (msC xs[i])[2]? ∧ w.cell? ⟨g, i * 6 + 3, none⟩ = (msC xs[i])[3]? ∧ w.cell? ⟨g, i * 6 + 4, none⟩ = (msC xs[i])[4]? ∧ w.cell? ⟨g, i * 6 + 5, none⟩ = (msC xs[i])[5]? := by
  obtain ⟨g, h1, h2, h3⟩ := h (List.ne_nil_of_length_pos (by omega))
  exact ⟨g, h1, h2, h3 i hi 0 (by decide), h3 i hi 1 (by decide), h3 i hi 2 (by decide), h3 i hi 3 (by decide), h3 i hi 4 (by decide), h3 i hi 5 (by decide)⟩
end Go.Proofs.YtafdjjdmcnlddaaGreat

namespace Go.Proofs.YtafdjjdmcnlddaaGreat
set_option linter.unusedSimpArgs false
set_option linter.unusedVariables false
open Go.RowKit

/-- So many elements have been copied. -/
def Cop_ms (xs : List MsL) (g n i : Nat) (W : World) : Prop := ∃ L, Arr W g 28 L ∧ L.length = n * 6 ∧ ∀ i' (h : i' < xs.length), i' < i → ∀ j, j < 6 → L[i' * 6 + j]? = (msC xs[i'])[j]?
theorem Cop_ms.on {xs : List MsL} {g n i : Nat} {W W2 : World} (h : Cop_ms xs g n i W) (hb : Below W.heap.size W W2) : Cop_ms xs g n i W2 := by
  obtain ⟨L, h1, h2⟩ := h
  exact ⟨L, (hb.block g (Array.getElem?_eq_some_iff.1 h1).1).trans h1, h2⟩
theorem Cop_ms.there {xs : List MsL} {g n i q : Nat} {W : World} (h : Cop_ms xs g n i W) (hq : q < n * 6) : (∃ u, W.cell? ⟨g, q, none⟩ = some u) ∧ W.frozen? ⟨g, q, none⟩ = false := by
  obtain ⟨L, h1, h2, _⟩ := h
  rw [h1.cell, h1.free]
  exact ⟨⟨L[q]'(by omega), List.getElem?_eq_getElem _⟩, rfl⟩
theorem Cop_ms.step {xs : List MsL} {g n i : Nat} {W : World} (h : Cop_ms xs g n i W) (hi : i < n) {x : MsL} (hx : xs[i]? = some x) : Cop_ms xs g n (i + 1) ((((((W.setCell ⟨g, i * 6, none⟩ (.string x.k)).setCell ⟨g, i * 6 + 1, none⟩ (.string x.t)).setCell ⟨g, i * 6 + 2, none⟩ (.string x.f)).setCell ⟨g, i * 6 + 3, none⟩ (.string x.o)).setCell ⟨g, i * 6 + 4, none⟩ (.int .i64 x.n)).setCell ⟨g, i * 6 + 5, none⟩ (.string x.b)) := by
  obtain ⟨L, h1, h2, h3⟩ := h
  refine ⟨_, (((((h1.put (i * 6) _).put (i * 6 + 1) _).put (i * 6 + 2) _).put (i * 6 + 3) _).put (i * 6 + 4) _).put (i * 6 + 5) _, by simpa using h2, fun i' hi' hlt j hj => ?_⟩
  by_cases e : i' = i
  · subst e
    have ex : xs[i'] = x := by rw [List.getElem?_eq_getElem hi'] at hx; exact Option.some.inj hx
    rw [ex]
    match j, hj with
    | 0, _ => rw [show i' * 6 + 0 = i' * 6 from rfl]; rw [List.getElem?_set_ne (by omega)]; rw [List.getElem?_set_ne (by omega)]; rw [List.getElem?_set_ne (by omega)]; rw [List.getElem?_set_ne (by omega)]; rw [List.getElem?_set_ne (by omega)]; rw [List.getElem?_set_self (by first | omega | (simp; omega))]; rfl
    | 1, _ => rw [List.getElem?_set_ne (by omega)]; rw [List.getElem?_set_ne (by omega)]; rw [List.getElem?_set_ne (by omega)]; rw [List.getElem?_set_ne (by omega)]; rw [List.getElem?_set_self (by first | omega | (simp; omega))]; rfl
    | 2, _ => rw [List.getElem?_set_ne (by omega)]; rw [List.getElem?_set_ne (by omega)]; rw [List.getElem?_set_ne (by omega)]; rw [List.getElem?_set_self (by first | omega | (simp; omega))]; rfl
    | 3, _ => rw [List.getElem?_set_ne (by omega)]; rw [List.getElem?_set_ne (by omega)]; rw [List.getElem?_set_self (by first | omega | (simp; omega))]; rfl
    | 4, _ => rw [List.getElem?_set_ne (by omega)]; rw [List.getElem?_set_self (by first | omega | (simp; omega))]; rfl
    | 5, _ => rw [List.getElem?_set_self (by first | omega | (simp; omega))]; rfl
  · have := h3 i' hi' (by omega) j hj
    rw [List.getElem?_set_ne (by omega), List.getElem?_set_ne (by omega), List.getElem?_set_ne (by omega), List.getElem?_set_ne (by omega), List.getElem?_set_ne (by omega), List.getElem?_set_ne (by omega)]
    exact this
theorem Cop_ms.own {xs : List MsL} {g n B : Nat} {W : World} (h : Cop_ms xs g n n W) (hn : xs.length = n) (hB : B ≤ g) (hm : n ≤ 1048576) : OwnC msC W B 28 6 (.slice (some ⟨g, 0, none⟩) n n) xs := by
  obtain ⟨L, h1, h2, h3⟩ := h
  have e : L = xs.flatMap msC := by
    apply List.ext_getElem?
    intro q
    by_cases hq : q < n * 6
    · have h4 := h3 (q / 6) (by rw [hn]; omega) (by omega) (q % 6) (by omega)
      rw [show q / 6 * 6 + q % 6 = q by omega] at h4
      rw [h4]
      have h5 := flat_at (enc := msC) (size := 6) (fun _ => rfl) xs (q / 6) (q % 6) (by rw [hn]; omega) (by omega)
      rw [show q / 6 * 6 + q % 6 = q by omega] at h5
      exact h5.symm
    · rw [List.getElem?_eq_none (by omega), List.getElem?_eq_none]
      rw [flat_len (enc := msC) (size := 6) (fun _ => rfl), hn]
      omega
  refine ⟨by rw [flat_len (enc := msC) (size := 6) (fun _ => rfl)], .inr ⟨g, n, L.toArray, by rw [hn], hB, h1, by omega, by unfold maxLen; omega, by simpa using h2, ?_⟩⟩
  rw [← e, List.take_of_length_le (by simp; rw [h2, hn]; omega)]
theorem info_ms : (Tryz.prog.info? 28).map (fun i => (i.zero, i.size, i.bytes)) = some (some (.agg #[.string ⟨#[]⟩, .string ⟨#[]⟩, .string ⟨#[]⟩, .string ⟨#[]⟩, .int .i64 0, .string ⟨#[]⟩]), 6, 88) := by kernel_rfl
end Go.Proofs.YtafdjjdmcnlddaaGreat

namespace Go.Proofs.YtafdjjdmcnlddaaGreat
set_option linter.unusedSimpArgs false
set_option linter.unusedVariables false
open Go.RowKit Go.Joins

/-- A row of strings of the call's own. -/
def OwnT (w : World) (B : Nat) (v : Value) (ps : List ByteArray) : Prop := w.ownsRow B 9 1 v ps.length (ps.map Value.string)
theorem own_on9 {w w' : World} {B : Nat} {v : Value} {ps : List ByteArray} (h : OwnT w B v ps) (hb : Below w.heap.size w w') : OwnT w' B v ps := ownsRow_on h hb
theorem info_str9 : (Tryz.prog.info? 9).map (fun i => (i.zero, i.size, i.bytes)) = some (some (.string ⟨#[]⟩), 1, 16) := by kernel_rfl
theorem wp_app_str9 {o : Oper} {a : Act} {w : World} {K : Act → World → Prop} {Q : Exit → Act → World → Prop} (s x : Operand)
    (ho : o.op = Op.call { callee := Callee.builtin Builtin.append, args := #[s, x], argTypes := #[31, 31] })
    (B : Nat) (v : Value) (ps : List ByteArray) (hs : a.eval s = v) (hown : OwnT w B v ps) (g : Nat) (y : ByteArray) (hx : a.eval x = .slice (some ⟨g, 0, none⟩) 1 1)
    (hc : w.cell? ⟨g, 0, none⟩ = some (.string y)) (hmax : ps.length ≤ 2000000) (hB : B ≤ w.heap.size)
    (h : ∀ v' w', OwnT w' B v' (ps ++ [y]) → w.grownBy w' v.ownBlock → (∀ k, v.ownBlock = some k → B ≤ k ∧ k < w.heap.size) → K (a.put o.dst v') w') : o.wp Tryz.prog a w K Q := by
  obtain ⟨i0, hi, hz0, hz1, hz2⟩ := info_parts info_str9
  obtain ⟨v', w', hr, h1, h2, _⟩ := run_append_own (P := Tryz.prog) w B 31 o.type 9 i0 (.string ⟨#[]⟩) 1 16 Tryz.underlying31 hi hz0 hz1 hz2 rfl (by decide) v ps.length (ps.map Value.string) hown ⟨g, 0, none⟩ 1 1 [.string y]
    rfl (fun j u hj => by
      have hj' : j = 0 := by have := (List.getElem?_eq_some_iff.1 hj).1; simp at this; omega
      subst hj'
      rw [show (⟨g, 0, none⟩ : Addr).add 0 = ⟨g, 0, none⟩ by unfold Addr.add; split <;> simp_all, hc, ← hj]
      rfl) (fun u hu => by simp at hu; subst hu; rfl) (by unfold maxLen; omega) (by omega) hB
  unfold Oper.wp execOp
  simp only [ho, resolve, invoke, builtin, Sem.run_bind, Sem.run_pure, Result.andThen_ok, List.map_toArray, List.map_cons, List.map_nil, hs, hx, hr]
  refine h v' w' ?_ h2 (fun k hk => World.ownsRow.lt hown k hk)
  unfold OwnT
  rw [List.length_append, List.map_append]
  exact h1
end Go.Proofs.YtafdjjdmcnlddaaGreat
