/- Several parts in one text: Math, RowsC, SeRow, JidBytes, JidParts, SeMath, SeCmp, JidRight, JidSpec, SeSmall, SeRightI, HandQ, SmJoin, SeRightS, SeAt, JoinWalks, SeCopy, SeWithI, SeWithS, SeIns. -/
import Derived.WalkKit
import Derived.ProofKit
import Derived.OpenShut
import Derived.Lib.Hide
import Derived.Laws.IdiomStrings
import Derived.Laws.BitsAllLaws
import Derived.Test.YtafdjjdmcnlddaaChecked
import Derived.WalkSmall
import Derived.Lib.SmallJoins
import Derived.ShutString
import Derived.Deep.Slices
import Derived.Test.YtafdjjdmcnlddaaShelf
import Derived.Lib.IndexMore
import Derived.Deep.RegionHeld3
import Derived.IntWalk
import Derived.Laws.Cover1
import Derived.Deep.DeepFit
import Derived.Deep.QuietTactic
import Derived.BigQuiet
import Derived.RegionTactic
import Derived.Lib.BufferWrite
import Derived.Laws.CopyOwn
import Derived.OwnWalk
import Derived.Laws.AppendOwn
import Derived.Lib.SliceRun
namespace Go.Proofs.Ytafdjjdmcnlddaa
set_option linter.unusedSimpArgs false
set_option linter.unusedVariables false
open Go.RowKit

theorem ret_bool {a b : Bool} (h : a = b) : Ending.returned (.bool a) = .returned (.bool b) := by rw [h]
/-- A byte as the cell that holds it. -/
def byteV (b : UInt8) : Value := .int .u8 (b.toNat : Int)
/-- The string of a list of bytes. -/
def strOf (l : List UInt8) : ByteArray := ⟨l.toArray⟩
theorem wrap_u64 (n : Int) : IntKind.u64.wrap n = n % 18446744073709551616 := by simp [IntKind.wrap, IntKind.bits, IntKind.signed]
theorem own_base {w : World} {B e size n : Nat} {v : Value} {xs : List Value} (h : w.ownsRow B e size v n xs) : ∀ k, v.ownBlock = some k → B ≤ k := by
  intro k hk
  rcases h.2 with ⟨rfl, _⟩ | ⟨g, cap, cur, rfl, hb, _⟩
  · simp [Value.ownBlock] at hk
  · simp [Value.ownBlock] at hk; omega
/-- Block b is just these cells, none of them frozen. -/
def Arr (w : World) (b t : Nat) (cs : List Value) : Prop := w.heap[b]? = some (.cells cs.toArray t (0, 0))
theorem Arr.cell {w : World} {b t : Nat} {cs : List Value} (h : Arr w b t cs) (i : Nat) : w.cell? ⟨b, i, none⟩ = cs[i]? := by
  unfold Arr at h
  have := cell_of_row w b i cs.toArray t (0, 0) h
  simpa using this
theorem Arr.free {w : World} {b t : Nat} {cs : List Value} (h : Arr w b t cs) (i : Nat) : w.frozen? ⟨b, i, none⟩ = false := by
  unfold Arr at h
  simp [World.frozen?, h]
theorem Arr.put {w : World} {b t : Nat} {cs : List Value} (h : Arr w b t cs) (i : Nat) (u : Value) : Arr (w.setCell ⟨b, i, none⟩ u) b t (cs.set i u) := by
  unfold Arr at h ⊢
  simp [World.setCell, Array.getElem?_modify, h]
theorem Arr.fresh (w : World) (t : Nat) (cs : List Value) : Arr (w.alloc (.cells cs.toArray t)) w.heap.size t cs := heap_alloc_new w _
/-- The bytes l stand at the head of the block. -/
def Heads (cs : List Value) (l : List UInt8) : Prop := cs.take l.length = l.map byteV
theorem Heads.at {cs : List Value} {l : List UInt8} (h : Heads cs l) {j : Nat} (hj : j < l.length) : cs[j]? = some (.int .u8 (l[j].toNat : Int)) := by
  have e : (cs.take l.length)[j]? = (l.map byteV)[j]? := by rw [h]
  rw [List.getElem?_take_of_lt hj] at e
  rw [e]
  simp [byteV, List.getElem?_eq_getElem hj]
/-- string(a[:n]) where the array's first cells are the bytes l. -/
theorem run_string_arr {P : Program} (w : World) (src dst e b t cap n : Nat) (cs : List Value) (l : List UInt8) (hA : Arr w b t cs) (hh : Heads cs l) (hn : n = l.length)
    (hs : P.underlying src = some (.slice e)) (he : P.underlying e = some (.int .u8)) (hd : P.underlying dst = some .string) :
    (convert src dst (.slice (some ⟨b, 0, none⟩) n cap)).run P w = .ok (.string (strOf l)) w := by
  subst hn
  refine run_convert_bytes_back w src dst e ⟨b, 0, none⟩ cap l hs he hd (fun j hj => ?_)
  have : (⟨b, 0, none⟩ : Addr).add j = ⟨b, j, none⟩ := by unfold Addr.add; split <;> simp_all
  rw [this, hA.cell]
  exact hh.at hj
theorem below_one {w w1 : World} {o : Obj} (h : Below (w.alloc o).heap.size (w.alloc o) w1) : Below w.heap.size w w1 :=
  ((Below.refl _ _).alloc (Nat.le_refl _) o).trans (h.mono (by simp))
end Go.Proofs.Ytafdjjdmcnlddaa

namespace Go.Proofs.Ytafdjjdmcnlddaa
set_option linter.unusedSimpArgs false
set_option linter.unusedVariables false
open Go.RowKit

/-- The slice v, which the call has made, holds these elements. -/
def OwnC {α : Type} (enc : α → List Value) (w : World) (B e size : Nat) (v : Value) (xs : List α) : Prop := w.ownsRow B e size v xs.length (xs.flatMap enc)
theorem ownC_nil {α : Type} (enc : α → List Value) (w : World) (B e size : Nat) : OwnC enc w B e size (.slice none 0 0) [] := World.ownsRow_nil _ _ _ _
theorem OwnC.alloc {α : Type} {enc : α → List Value} {w : World} {B e size : Nat} {v : Value} {xs : List α} (h : OwnC enc w B e size v xs) (o : Obj) : OwnC enc (w.alloc o) B e size v xs := World.ownsRow.alloc h o
theorem OwnC.drew {α : Type} {enc : α → List Value} {w : World} {B e size : Nat} {v : Value} {xs : List α} (h : OwnC enc w B e size v xs) : OwnC enc w.drew B e size v xs := h
theorem OwnC.low {α : Type} {enc : α → List Value} {w : World} {B e size : Nat} {v : Value} {xs : List α} (h : OwnC enc w B e size v xs) {a : Addr} (ha : a.block < B) (u : Value) : OwnC enc (w.setCell a u) B e size v xs := ownsRow_setCell_below h ha u
theorem ownsRow_on {w w' : World} {B e size n : Nat} {v : Value} {xs : List Value} (h : w.ownsRow B e size v n xs) (hb : Below w.heap.size w w') : w'.ownsRow B e size v n xs := by
  refine ⟨h.1, ?_⟩
  rcases h.2 with h0 | ⟨g, cap, cur, h1, h2, h3, h4⟩
  · exact .inl h0
  · have hlt : g < w.heap.size := (Array.getElem?_eq_some_iff.1 h3).1
    exact .inr ⟨g, cap, cur, h1, h2, (hb.block g hlt).trans h3, h4⟩
theorem OwnC.on {α : Type} {enc : α → List Value} {w w' : World} {B e size : Nat} {v : Value} {xs : List α} (h : OwnC enc w B e size v xs) (hb : Below w.heap.size w w') : OwnC enc w' B e size v xs := ownsRow_on h hb
theorem OwnC.mono {α : Type} {enc : α → List Value} {w : World} {B B' e size : Nat} {v : Value} {xs : List α} (h : OwnC enc w B e size v xs) (hB : B' ≤ B) : OwnC enc w B' e size v xs := by
  refine ⟨h.1, ?_⟩
  rcases h.2 with h0 | ⟨g, cap, cur, h1, h2, h3⟩
  · exact .inl h0
  · exact .inr ⟨g, cap, cur, h1, Nat.le_trans hB h2, h3⟩
theorem OwnC.base {α : Type} {enc : α → List Value} {w : World} {B e size : Nat} {v : Value} {xs : List α} (h : OwnC enc w B e size v xs) : ∀ k, v.ownBlock = some k → B ≤ k := own_base h
theorem flat_len {α : Type} {enc : α → List Value} {size : Nat} (hlen : ∀ x, (enc x).length = size) (xs : List α) : (xs.flatMap enc).length = xs.length * size := by
  induction xs with
  | nil => simp
  | cons x xs ih => rw [List.flatMap_cons, List.length_append, hlen, ih, List.length_cons, Nat.add_mul, Nat.one_mul, Nat.add_comm]
theorem flat_at {α : Type} {enc : α → List Value} {size : Nat} (hlen : ∀ x, (enc x).length = size) : ∀ (xs : List α) (i j : Nat) (hi : i < xs.length), j < size → (xs.flatMap enc)[i * size + j]? = (enc xs[i])[j]?
  | x :: xs, 0, j, hi, hj => by
    rw [List.flatMap_cons, Nat.zero_mul, Nat.zero_add, List.getElem?_append_left (by rw [hlen]; exact hj)]
    rfl
  | x :: xs, i + 1, j, hi, hj => by
    rw [List.flatMap_cons, List.getElem?_append_right (by rw [hlen, Nat.add_mul, Nat.one_mul]; omega), hlen, show (i + 1) * size + j - size = i * size + j by rw [Nat.add_mul, Nat.one_mul]; omega]
    exact flat_at hlen xs i j (by simpa using hi) hj
/-- The cells of element i. -/
theorem OwnC.cell {α : Type} {enc : α → List Value} {w : World} {B e size g n cap : Nat} {xs : List α} (hlen : ∀ x, (enc x).length = size) (h : OwnC enc w B e size (.slice (some ⟨g, 0, none⟩) n cap) xs) (i j : Nat) (hi : i < xs.length) (hj : j < size) :
    w.cell? ⟨g, i * size + j, none⟩ = (enc xs[i])[j]? := by
  have h1 := flat_at hlen xs i j hi hj
  obtain ⟨u, hu⟩ : ∃ u, (enc xs[i])[j]? = some u := ⟨(enc xs[i])[j]'(by rw [hlen]; exact hj), List.getElem?_eq_getElem _⟩
  rw [hu] at h1 ⊢
  have := World.ownsRow.cells h (g := g) rfl (i * size + j) u h1
  rw [show (⟨g, 0, none⟩ : Addr).add (i * size + j) = ⟨g, i * size + j, none⟩ by unfold Addr.add; split <;> simp_all] at this
  exact this
/-- A slice from the head of a block, which holds these elements. -/
def RowC {α : Type} (enc : α → List Value) (size : Nat) (w : World) (p : Option Addr) (xs : List α) : Prop := xs ≠ [] → ∃ g, p = some ⟨g, 0, none⟩ ∧ g < w.heap.size ∧ ∀ i (h : i < xs.length) j, j < size → w.cell? ⟨g, i * size + j, none⟩ = (enc xs[i])[j]?
theorem RowC.on {α : Type} {enc : α → List Value} {size : Nat} {w w' : World} {p : Option Addr} {xs : List α} (h : RowC enc size w p xs) (hb : Below w.heap.size w w') : RowC enc size w' p xs := by
  intro hx
  obtain ⟨g, h1, h2, h3⟩ := h hx
  exact ⟨g, h1, Nat.lt_of_lt_of_le h2 hb.size, fun i hi j hj => (hb.cell (p := ⟨g, i * size + j, none⟩) h2).trans (h3 i hi j hj)⟩
theorem OwnC.row {α : Type} {enc : α → List Value} {w : World} {B e size : Nat} {v : Value} {xs : List α} (hlen : ∀ x, (enc x).length = size) (h : OwnC enc w B e size v xs) : ∃ p cap, v = .slice p xs.length cap ∧ RowC enc size w p xs := by
  rcases h.2 with ⟨h0, h1⟩ | ⟨g, cap, cur, h1, h2, h3, h4⟩
  · refine ⟨none, 0, by rw [h0, h1], fun hx => ?_⟩
    exact absurd (List.eq_nil_of_length_eq_zero h1) hx
  · subst h1
    exact ⟨some ⟨g, 0, none⟩, cap, rfl, fun _ => ⟨g, rfl, (Array.getElem?_eq_some_iff.1 h3).1, fun i hi j hj => OwnC.cell hlen h i j hi hj⟩⟩
end Go.Proofs.Ytafdjjdmcnlddaa

namespace Go.Proofs.Ytafdjjdmcnlddaa
set_option linter.unusedSimpArgs false
set_option linter.unusedVariables false
open Go.ChangeShapes Go.WideShapes Go.ChangeAt Go.RowKit Go.Joins

/-- A session: resource, on, priority, show. -/
structure SeL where
  r : ByteArray
  o : Bool
  p : Int
  s : ByteArray
instance : Inhabited SeL := ⟨⟨ByteArray.empty, false, 0, ByteArray.empty⟩⟩
def seC (x : SeL) : List Value := [.string x.r, .bool x.o, .int .i64 x.p, .string x.s]
def seV (x : SeL) : Value := .agg #[.string x.r, .bool x.o, .int .i64 x.p, .string x.s]
theorem seC_len (x : SeL) : (seC x).length = 4 := rfl
theorem seC_one (x : SeL) : ∀ u ∈ seC x, u.oneCell' = true := by
  intro u hu
  simp [seC] at hu
  rcases hu with rfl | rfl | rfl | rfl <;> rfl
/-- Strings and numbers as the machine has them. -/
def SeL.wf (x : SeL) : Prop := x.r.size ≤ maxLen ∧ (Lit.int .i64 x.p).wf = true ∧ x.s.size ≤ maxLen
theorem cellsStr9 : Try.prog.cellsOf 9 = 1 := by kernel_rfl
theorem cellsI649 : Try.prog.cellsOf 2 = 1 := by kernel_rfl
theorem cellsBo9 : Try.prog.cellsOf 4 = 1 := by kernel_rfl
/-- The elements of a slice that came in lie at a stretch of a block. -/
def RowA {α : Type} (enc : α → List Value) (size : Nat) (w : World) (p : Option Addr) (xs : List α) : Prop := xs ≠ [] → ∃ g o, p = some ⟨g, o, none⟩ ∧ g < w.heap.size ∧ ∀ i (h : i < xs.length) j, j < size → w.cell? ⟨g, o + (i * size + j), none⟩ = (enc xs[i])[j]?
theorem RowA.below {α : Type} {enc : α → List Value} {size : Nat} {w w' : World} {p : Option Addr} {xs : List α} (h : RowA enc size w p xs) (hb : Below w.heap.size w w') : RowA enc size w' p xs := by
  intro hx
  obtain ⟨g, o, h1, h2, h3⟩ := h hx
  exact ⟨g, o, h1, Nat.lt_of_lt_of_le h2 hb.size, fun i hi j hj => (hb.cell (p := ⟨g, o + (i * size + j), none⟩) h2).trans (h3 i hi j hj)⟩
def IncR (xs : List SeL) (n : Nat) : Prop := ∀ i (h : i < xs.length), 0 < i → i < n → ∀ h' : i - 1 < xs.length, Op.bytesLess xs[i - 1].r.toList xs[i].r.toList = true
open Classical in
noncomputable def incB (xs : List SeL) : Bool := decide (IncR xs xs.length)
theorem incB_true {xs : List SeL} (h : IncR xs xs.length) : incB xs = true := by unfold incB; simpa using h
theorem incB_false {xs : List SeL} (h : ¬ IncR xs xs.length) : incB xs = false := by unfold incB; simpa using h
theorem incB_iff {xs : List SeL} : incB xs = true ↔ IncR xs xs.length := by unfold incB; simp
theorem incR_zero (xs : List SeL) : IncR xs 1 := fun i _ h0 h1 => by omega
theorem incR_succ {xs : List SeL} {k : Nat} (h : IncR xs k) (hk : k < xs.length) (h1 : 0 < k → ∀ h' : k - 1 < xs.length, Op.bytesLess xs[k - 1].r.toList xs[k].r.toList = true) : IncR xs (k + 1) := by
  intro i hi h0 hlt h'
  by_cases e : i = k
  · subst e; exact h1 h0 h'
  · exact h i hi h0 (by omega) h'
theorem row_se4 {w : World} {p : Option Addr} {xs : List SeL} (h : RowC seC 4 w p xs) {i : Nat} (hi : i < xs.length) : ∃ g, p = some ⟨g, 0, none⟩ ∧ g < w.heap.size ∧ w.cell? ⟨g, i * 4, none⟩ = some (.string xs[i].r) ∧ w.cell? ⟨g, i * 4 + 1, none⟩ = some (.bool xs[i].o) ∧ w.cell? ⟨g, i * 4 + 2, none⟩ = some (.int .i64 xs[i].p) ∧ w.cell? ⟨g, i * 4 + 3, none⟩ = some (.string xs[i].s) := by
  obtain ⟨g, h1, h2, h3⟩ := h (List.ne_nil_of_length_pos (by omega))
  exact ⟨g, h1, h2, h3 i hi 0 (by decide), h3 i hi 1 (by decide), h3 i hi 2 (by decide), h3 i hi 3 (by decide)⟩

theorem sl_self : ∀ a : List UInt8, Op.bytesLess a a = false
  | [] => rfl
  | c :: a => by
    unfold Op.bytesLess
    rw [sl_self a]
    simp
theorem sl_eq : ∀ a b : List UInt8, Op.bytesLess a b = false → Op.bytesLess b a = false → a = b
  | [], [], _, _ => rfl
  | [], _ :: _, h, _ => by cases h
  | _ :: _, [], _, h => by cases h
  | a :: x, b :: y, h, h' => by
    have ih := sl_eq x y
    unfold Op.bytesLess at h h'
    by_cases h1 : a < b
    · simp [h1] at h
    · by_cases h2 : b < a
      · simp [h2] at h'
      · have h3 : a = b := UInt8.le_antisymm (UInt8.not_lt.1 h2) (UInt8.not_lt.1 h1)
        subst h3
        simp [h1] at h h'
        rw [ih h h']
theorem sl_trans : ∀ a b c : List UInt8, Op.bytesLess a b = true → Op.bytesLess b c = true → Op.bytesLess a c = true
  | _, [], [], h, h' => by cases h'
  | [], [], _ :: _, h, _ => by cases h
  | _ :: _, [], _, h, _ => by cases h
  | [], _ :: _, [], _, h' => by cases h'
  | [], _ :: _, _ :: _, _, _ => rfl
  | _ :: _, _ :: _, [], _, h' => by cases h'
  | a :: x, b :: y, c :: z, h, h' => by
    have ih := sl_trans x y z
    unfold Op.bytesLess at h h' ⊢
    simp only [Bool.or_eq_true, decide_eq_true_eq, Bool.and_eq_true, beq_iff_eq] at h h' ⊢
    rcases h with h | ⟨rfl, h⟩
    · rcases h' with h' | ⟨rfl, h'⟩
      · exact .inl (UInt8.lt_trans h h')
      · exact .inl h
    · rcases h' with h' | ⟨rfl, h'⟩
      · exact .inl h'
      · exact .inr ⟨rfl, ih h h'⟩
/-- How many resources are less than r, from the first on. -/
def posS (r : ByteArray) : List SeL → Nat
  | [] => 0
  | x :: t => if Op.bytesLess x.r.toList r.toList then posS r t + 1 else 0
theorem pos_le (r : ByteArray) : ∀ xs, posS r xs ≤ xs.length
  | [] => Nat.le_refl _
  | x :: t => by
    unfold posS
    have := pos_le r t
    split
    · simp; omega
    · exact Nat.zero_le _
theorem pos_lo {r : ByteArray} : ∀ {xs : List SeL} {i : Nat} (hi : i < xs.length), i < posS r xs → Op.bytesLess xs[i].r.toList r.toList = true
  | x :: t, 0, _, h => by
    unfold posS at h
    split at h
    · assumption
    · exact absurd h (Nat.not_lt_zero _)
  | x :: t, i + 1, hi, h => by
    unfold posS at h
    split at h
    · exact pos_lo (xs := t) (by simpa using hi) (by omega)
    · exact absurd h (Nat.not_lt_zero _)
theorem pos_at {r : ByteArray} : ∀ {xs : List SeL} (h : posS r xs < xs.length), Op.bytesLess xs[posS r xs].r.toList r.toList = false
  | x :: t, h => by
    by_cases hx : Op.bytesLess x.r.toList r.toList = true
    · have e : posS r (x :: t) = posS r t + 1 := by show (if _ then _ else _) = _; rw [if_pos hx]
      have h' : posS r t < t.length := by rw [e] at h; simpa using h
      have := pos_at (xs := t) h'
      simp only [e, List.getElem_cons_succ]
      exact this
    · have e : posS r (x :: t) = 0 := by show (if _ then _ else _) = _; rw [if_neg hx]
      simp only [e, List.getElem_cons_zero]
      exact Bool.eq_false_iff.2 hx
theorem inc_all {xs : List SeL} (h : IncR xs xs.length) : ∀ (j i : Nat) (hj : j < xs.length) (hij : i < j), Op.bytesLess (xs[i]'(by omega)).r.toList xs[j].r.toList = true
  | 0, i, _, hij => absurd hij (Nat.not_lt_zero _)
  | j + 1, i, hj, hij => by
    have h1 := h (j + 1) hj (by omega) hj (by show j < xs.length; omega)
    simp only [Nat.add_sub_cancel] at h1
    by_cases e : i = j
    · subst e; exact h1
    · exact sl_trans _ _ _ (inc_all h j i (by omega) (by omega)) h1
theorem pos_hi {r : ByteArray} {xs : List SeL} (h : IncR xs xs.length) {i : Nat} (hi : i < xs.length) (hp : posS r xs ≤ i) : Op.bytesLess xs[i].r.toList r.toList = false := by
  have h0 := pos_at (r := r) (xs := xs) (by omega)
  by_cases e : i = posS r xs
  · subst e; exact h0
  · rw [Bool.eq_false_iff]
    intro hl
    have := sl_trans _ _ _ (inc_all h i (posS r xs) hi (by omega)) hl
    rw [h0] at this
    cases this
/-- Is there a session of this resource? -/
def hereB (r : ByteArray) (xs : List SeL) : Bool := match xs[posS r xs]? with
  | some x => x.r.toList == r.toList
  | none => false
theorem here_at {r : ByteArray} {xs : List SeL} (hp : posS r xs < xs.length) : hereB r xs = (xs[posS r xs].r.toList == r.toList) := by
  unfold hereB
  rw [List.getElem?_eq_getElem hp]
theorem here_end {r : ByteArray} {xs : List SeL} (hp : ¬ posS r xs < xs.length) : hereB r xs = false := by
  unfold hereB
  rw [List.getElem?_eq_none (by omega)]
/-- The only session of its resource is the one there. -/
theorem here_only {r : ByteArray} {xs : List SeL} (h : IncR xs xs.length) {i : Nat} (hi : i < xs.length) (he : xs[i].r.toList = r.toList) : i = posS r xs ∧ hereB r xs = true := by
  have h1 : posS r xs ≤ i := by
    rcases Nat.lt_or_ge i (posS r xs) with hl | hg
    · have := pos_lo hi hl
      rw [he, sl_self] at this
      cases this
    · exact hg
  have h2 : i = posS r xs := by
    rcases Nat.lt_or_ge (posS r xs) i with hl | hg
    · have hp : posS r xs < xs.length := by omega
      have := inc_all h i (posS r xs) hi hl
      rw [he, pos_at hp] at this
      cases this
    · omega
  refine ⟨h2, ?_⟩
  subst h2
  rw [here_at hi, he]
  exact beq_self_eq_true _
end Go.Proofs.Ytafdjjdmcnlddaa

namespace Go.Proofs.Ytafdjjdmcnlddaa
set_option linter.unusedSimpArgs false
set_option linter.unusedVariables false
open Go.RowKit

def resC (c : Nat) : Bool := decide (33 ≤ c ∧ c ≤ 126 ∧ c ≠ 47 ∧ c ≠ 60 ∧ c ≠ 62 ∧ c ≠ 38 ∧ c ≠ 39 ∧ c ≠ 34)

/-- A call that answers a bool and leaves the world alone. -/
def SaysB (b : Bool) (w : World) (e : Ending) (w' : World) : Prop := e = .returned (.bool b) ∧ w = w'

set_option maxRecDepth 100000 in
theorem mark_idx (c : Nat) (hc : c ≤ 255) : Lib.indexByte [47, 60, 62, 38, 39, 34] ((c : Int).toNat.toUInt8) < 0 ↔ (c ≠ 47 ∧ c ≠ 60 ∧ c ≠ 62 ∧ c ≠ 38 ∧ c ≠ 39 ∧ c ≠ 34) := by
  have h : ∀ x : Fin 256, (Lib.indexByte [47, 60, 62, 38, 39, 34] ((x.val : Int).toNat.toUInt8) < 0 ↔ (x.val ≠ 47 ∧ x.val ≠ 60 ∧ x.val ≠ 62 ∧ x.val ≠ 38 ∧ x.val ≠ 39 ∧ x.val ≠ 34)) := by decide +kernel
  exact h ⟨c, by omega⟩
set_option maxHeartbeats 1000000 in
theorem impl_resb (c : Nat) (hc : c ≤ 255) (w : World) : Calls Try.prog 104 #[.int .u8 (c : Int)] w (SaysB (resC c) w) := by
  have hm := mark_idx c hc
  obtain ⟨z, hz⟩ : ∃ z, Lib.indexByte [47, 60, 62, 38, 39, 34] ((c : Int).toNat.toUInt8) = z := ⟨_, rfl⟩
  have i1 := fun w => Try.strings_IndexByte ⟨#[47, 60, 62, 38, 39, 34]⟩ (c : Int) w
  rw [show (⟨#[47, 60, 62, 38, 39, 34]⟩ : ByteArray).data.toList = [47, 60, 62, 38, 39, 34] from rfl, hz] at i1
  rw [hz] at hm
  clear hz
  unfold resC
  by_cases h1 : 33 ≤ (c : Int) <;> by_cases h2 : (c : Int) ≤ 126 <;>
    (go_enter Try.func104, Try.ntmps104
     go_wp2_with (go_at_call 128; refine (i1 _).mono ?_; rintro e w' ⟨rfl, rfl⟩)
     go_ret
     refine ⟨ret_bool ?_, rfl⟩
     rw [Bool.eq_iff_iff]
     simp
     omega)
end Go.Proofs.Ytafdjjdmcnlddaa

namespace Go.Proofs.Ytafdjjdmcnlddaa
set_option linter.unusedSimpArgs false
set_option linter.unusedVariables false
open Go.RowKit

def allC (ok : Nat → Bool) (s : ByteArray) : Bool := s.data.toList.all (fun c => ok c.toNat)
def partB (ok : Nat → Bool) (s : ByteArray) : Bool := decide (s.size ≤ 30) && allC ok s
theorem allC_iff (ok : Nat → Bool) (s : ByteArray) : allC ok s = true ↔ ∀ j (h : j < s.size), ok s[j].toNat = true := by
  unfold allC
  rw [List.all_eq_true]
  constructor
  · intro h j hj
    exact h s[j] (by rw [show s[j] = s.data[j] from rfl]; simp)
  · intro h x hx
    obtain ⟨j, hj, rfl⟩ := List.getElem_of_mem hx
    have hj' : j < s.size := by rw [Array.length_toList] at hj; exact hj
    rw [Array.getElem_toList]
    exact h j hj'
def Upto (ok : Nat → Bool) (s : ByteArray) (k : Nat) : Prop := ∀ j (h : j < s.size), j < k → ok s[j].toNat = true
theorem upto_zero (ok : Nat → Bool) (s : ByteArray) : Upto ok s 0 := fun _ _ h => absurd h (Nat.not_lt_zero _)
theorem upto_succ {ok : Nat → Bool} {s : ByteArray} {k : Nat} (h : Upto ok s k) (hk : k < s.size) (h1 : ok s[k].toNat = true) : Upto ok s (k + 1) := by
  intro j hj hlt
  by_cases e : j = k
  · subst e; exact h1
  · exact h j hj (by omega)
theorem upto_all {ok : Nat → Bool} {s : ByteArray} {k : Nat} (h : Upto ok s k) (hk : ¬ k < s.size) : allC ok s = true := (allC_iff ok s).2 fun j hj => h j hj (by omega)
theorem all_no {ok : Nat → Bool} {s : ByteArray} {k : Nat} (hk : k < s.size) (h1 : ok s[k].toNat = false) : allC ok s = false := by
  rw [Bool.eq_false_iff]
  intro h
  have := (allC_iff ok s).1 h k hk
  rw [h1] at this
  cases this
theorem byte_le (x : UInt8) : x.toNat ≤ 255 := by have := x.toNat_lt; omega

set_option maxHeartbeats 1000000 in
theorem impl_part_res (s : ByteArray) (w : World) (hs : s.size ≤ maxLen) : Calls Try.prog 103 #[.string s, .func (.func 104) #[] #[]] w (SaysB (partB resC s) w) := by
  unfold maxLen at hs
  unfold partB
  by_cases h30 : 30 < s.size
  · rw [show decide (s.size ≤ 30) = false by simp; omega]
    go_enter Try.func103, Try.ntmps103
    go_wp2
    go_ret
    exact ⟨rfl, rfl⟩
  · rw [show decide (s.size ≤ 30) = true by simp; omega, Bool.true_and]
    go_enter Try.func103, Try.ntmps103
    go_wp2
    go_loop [5] (fun i => ∃ k : Nat, k ≤ s.size ∧ i = .int .i64 k ∧ Upto resC s k) (fun i => s.size - (intOf i).toNat)
    case atStart => exact ⟨0, Nat.zero_le _, rfl, upto_zero _ _⟩
    case round =>
      obtain ⟨k, hk, rfl, hall⟩ := hrel
      have HA := Lib.hid hall
      clear hall
      by_cases hlt : k < s.size
      · have hc := fun w => impl_resb s[k].toNat (byte_le _) w
        obtain ⟨b, hb⟩ : ∃ b, resC s[k].toNat = b := ⟨_, rfl⟩
        rw [hb] at hc
        have HB := Lib.hid hb
        clear hb
        cases b
        · go_wp2_with (first | (go_at_call 104; refine (hc _).mono ?_; rintro e w' ⟨rfl, rfl⟩))
          go_ret
          exact ⟨ret_bool (all_no hlt HB.out).symm, rfl⟩
        · go_wp2_with (first | (go_at_call 104; refine (hc _).mono ?_; rintro e w' ⟨rfl, rfl⟩))
          go_round
          case rel => exact ⟨k + 1, by omega, by go_num, upto_succ HA.out hlt HB.out⟩
          case measure => simp [intOf]; omega
      · go_wp2
        go_ret
        exact ⟨ret_bool (upto_all HA.out hlt).symm, rfl⟩

/-! the domain -/
theorem size_zero {s : ByteArray} (h : s.size = 0) : s = ByteArray.empty := by
  obtain ⟨⟨l⟩⟩ := s
  have : l.length = 0 := h
  rw [List.eq_nil_of_length_eq_zero this]
  rfl

def MaxL (w : World) : Prop := ∃ m, w.cell? ⟨0, 0, none⟩ = some (.int .i64 m)
theorem MaxL.below {w w' : World} {B : Nat} (h : MaxL w) (hb : Below B w w') (hB : 0 < B) : MaxL w' := by
  obtain ⟨m, hm⟩ := h
  exact ⟨m, (hb.cell (p := ⟨0, 0, none⟩) hB).trans hm⟩
end Go.Proofs.Ytafdjjdmcnlddaa

namespace Go.Proofs.Ytafdjjdmcnlddaa
set_option linter.unusedSimpArgs false
set_option linter.unusedVariables false
open Go.RowKit

/-- The shows. -/
def showB (t : ByteArray) : Bool := [[], [97, 119, 97, 121], [99, 104, 97, 116], [100, 110, 100], [120, 97]].contains t.toList
def resB (t : ByteArray) : Bool := decide (0 < t.size) && partB resC t
/-- A valid session. -/
def seB (x : SeL) : Bool := (x.o || (decide (x.p = 0) && decide (x.s.size = 0))) && resB x.r && (decide (-128 ≤ x.p) && decide (x.p ≤ 127)) && showB x.s
def AllR (xs : List SeL) (n : Nat) : Prop := ∀ i (h : i < xs.length), i < n → seB xs[i] = true
/-- Valid sessions. -/
def SeOk (xs : List SeL) : Prop := xs.length ≤ 5 ∧ IncR xs xs.length ∧ AllR xs xs.length
open Classical in
noncomputable def okB (xs : List SeL) : Bool := decide (SeOk xs)
theorem okB_true {xs : List SeL} (h : SeOk xs) : okB xs = true := by unfold okB; simpa using h
theorem okB_false {xs : List SeL} (h : ¬ SeOk xs) : okB xs = false := by unfold okB; simpa using h
theorem okB_iff {xs : List SeL} : okB xs = true ↔ SeOk xs := by unfold okB; simp
theorem allR_zero (xs : List SeL) : AllR xs 0 := fun i _ h => absurd h (Nat.not_lt_zero _)
theorem allR_succ {xs : List SeL} {k : Nat} (h : AllR xs k) (hk : k < xs.length) (h1 : seB xs[k] = true) : AllR xs (k + 1) := by
  intro i hi hlt
  by_cases e : i = k
  · subst e; exact h1
  · exact h i hi (by omega)
/-- An answer: sessions, code. -/
structure SoL where
  l : List SeL
  c : Int
def illS (c : Int) : SoL := ⟨[], c⟩
def newS (r : ByteArray) : SeL := ⟨r, false, 0, ⟨#[]⟩⟩
noncomputable def bindR (xs : List SeL) (r : ByteArray) : SoL :=
  if 400 < xs.length ∨ 20000 < r.size then illS 2 else if okB xs = false ∨ resB r = false then illS 1 else if hereB r xs = true then illS 7 else if xs.length = 5 then illS 9
  else ⟨xs.take (posS r xs) ++ newS r :: xs.drop (posS r xs), 0⟩
noncomputable def unbindR (xs : List SeL) (r : ByteArray) : SoL :=
  if 400 < xs.length ∨ 20000 < r.size then illS 2 else if okB xs = false then illS 1 else if hereB r xs = false then illS 6
  else ⟨xs.take (posS r xs) ++ xs.drop (posS r xs + 1), 0⟩
/-- The session of its resource is replaced, if the new one is valid. -/
noncomputable def withR (xs : List SeL) (y : SeL) : SoL :=
  if 400 < xs.length ∨ 20000 < y.r.size then illS 2 else if okB xs = false then illS 1 else if hereB y.r xs = false then illS 6 else if seB y = false then illS 1
  else ⟨xs.set (posS y.r xs) y, 0⟩
noncomputable def absR (xs : List SeL) (r : ByteArray) : SoL := withR xs (newS r)
noncomputable def presR (xs : List SeL) (r : ByteArray) (p : Int) (s : ByteArray) : SoL := if 20000 < s.size then illS 2 else withR xs ⟨r, true, p, s⟩
def anyS (xs : List SeL) : Bool := xs.any (fun x => x.o)
noncomputable def anyR (xs : List SeL) : Bool := okB xs && anyS xs
end Go.Proofs.Ytafdjjdmcnlddaa

namespace Go.Proofs.Ytafdjjdmcnlddaa
set_option linter.unusedSimpArgs false
set_option linter.unusedVariables false
open Go.RowKit

theorem nan_str (s : ByteArray) (w : World) : Calls Try.prog 132 #[.string s] w fun e w' => e = .returned (.bool false) ∧ w = w' := by
  go_enter Try.func132, Try.ntmps132
  go_wp2
  go_ret
  exact ⟨ret_bool (by simp), rfl⟩
/-- What comparing two texts answers. -/
def cmpI (a b : ByteArray) : Int := if Op.bytesLess a.toList b.toList then -1 else if a.toList == b.toList then 0 else 1
theorem cmp_str (a b : ByteArray) (w : World) : Calls Try.prog 114 #[.string a, .string b] w fun e w' => e = .returned (.int .i64 (cmpI a b)) ∧ w = w' := by
  obtain ⟨b1, h1⟩ : ∃ b1, Op.bytesLess a.toList b.toList = b1 := ⟨_, rfl⟩
  obtain ⟨b2, h2⟩ : ∃ b2, (a.toList == b.toList) = b2 := ⟨_, rfl⟩
  unfold cmpI
  rw [h1, h2]
  have H1 := h1
  have H2 := h2
  cases b1 <;> cases b2 <;>
    (go_enter Try.func114, Try.ntmps114
     go_wp2_with (go_at_call 132; go_fit (nan_str _ _); rintro e w' ⟨rfl, rfl⟩)
     go_ret
     exact ⟨rfl, rfl⟩)
set_option maxHeartbeats 1000000 in
theorem cmp_res (x y : SeL) (w : World) : Calls Try.prog 82 #[seV x, seV y] w fun e w' => e = .returned (.int .i64 (cmpI x.r y.r)) ∧ Below w.heap.size w w' := by
  unfold seV
  obtain ⟨z, hz⟩ : ∃ z, cmpI x.r y.r = z := ⟨_, rfl⟩
  have i1 := fun W => cmp_str x.r y.r W
  rw [hz] at i1 ⊢
  go_enter Try.func82, Try.ntmps82
  go_wp2_with (go_at_call 114; go_fit (i1 _); rintro e w' ⟨rfl, rfl⟩)
  go_ret
  exact ⟨rfl, ((Below.refl _ _).alloc (Nat.le_refl _) _).alloc (by simp) _⟩
theorem cmp_neg {a b : ByteArray} : (cmpI a b < 0) ↔ Op.bytesLess a.toList b.toList = true := by
  unfold cmpI
  cases Op.bytesLess a.toList b.toList <;> cases a.toList == b.toList <;> simp
theorem cmp_zero {a b : ByteArray} : (cmpI a b = 0) ↔ a.toList = b.toList := by
  unfold cmpI
  constructor
  · intro h
    cases h1 : Op.bytesLess a.toList b.toList
    · cases h2 : a.toList == b.toList
      · rw [h1, h2] at h; simp at h
      · simpa using h2
    · rw [h1] at h; simp at h
  · intro h
    rw [h, sl_self]
    simp
/-- Two neighbours of a row. -/
abbrev Two_se (g k : Nat) (x y : SeL) (wr W : World) : Prop := (((W.cell? ⟨g, k * 4, none⟩ = some (.string x.r) ∧ W.cell? ⟨g, k * 4 + 1, none⟩ = some (.bool x.o) ∧ W.cell? ⟨g, k * 4 + 2, none⟩ = some (.int .i64 x.p) ∧ W.cell? ⟨g, k * 4 + 3, none⟩ = some (.string x.s)) ∧
  (W.cell? ⟨g, (k + 1) * 4, none⟩ = some (.string y.r) ∧ W.cell? ⟨g, (k + 1) * 4 + 1, none⟩ = some (.bool y.o) ∧ W.cell? ⟨g, (k + 1) * 4 + 2, none⟩ = some (.int .i64 y.p) ∧ W.cell? ⟨g, (k + 1) * 4 + 3, none⟩ = some (.string y.s))) ∧ (Below wr.heap.size wr W ∧ g < wr.heap.size))
theorem two_se_on {g k : Nat} {x y : SeL} {wr W W2 : World} (h : Two_se g k x y wr W) (hb : Below W.heap.size W W2) : Two_se g k x y wr W2 := by
  obtain ⟨⟨⟨c0, c1, c2, c3⟩, d0, d1, d2, d3⟩, h1, h2⟩ := h
  have ha : g < W.heap.size := Nat.lt_of_lt_of_le h2 h1.size
  exact ⟨⟨⟨(hb.cell (p := ⟨g, k * 4, none⟩) ha).trans c0, (hb.cell (p := ⟨g, k * 4 + 1, none⟩) ha).trans c1, (hb.cell (p := ⟨g, k * 4 + 2, none⟩) ha).trans c2, (hb.cell (p := ⟨g, k * 4 + 3, none⟩) ha).trans c3⟩,
    (hb.cell (p := ⟨g, (k + 1) * 4, none⟩) ha).trans d0, (hb.cell (p := ⟨g, (k + 1) * 4 + 1, none⟩) ha).trans d1, (hb.cell (p := ⟨g, (k + 1) * 4 + 2, none⟩) ha).trans d2, (hb.cell (p := ⟨g, (k + 1) * 4 + 3, none⟩) ha).trans d3⟩, h1.trans (hb.mono h1.size), h2⟩
theorem two_se_drew {g k : Nat} {x y : SeL} {wr W : World} (h : Two_se g k x y wr W) : Two_se g k x y wr W.drew := two_se_on h (Below.refl _ _).drew
set_option maxRecDepth 100000 in
set_option maxHeartbeats 2000000 in
theorem impl_inc (xs : List SeL) (p : Option Addr) (c : Nat) (w : World) (hn : xs.length ≤ 1048576) (hR : RowC seC 4 w p xs) :
    Calls Try.prog 81 #[.slice p xs.length c, .func (.func 82) #[] #[]] w fun e w' => e = .returned (.bool (incB xs)) ∧ Below w.heap.size w w' := by
  obtain ⟨n, hxn⟩ : ∃ n, xs.length = n := ⟨_, rfl⟩
  have HP := Lib.hid (fun W (h : Below w.heap.size w W) => hR.on h)
  have HN := Lib.hid hxn
  obtain ⟨Z, hZ⟩ : ∃ Z, incB xs = Z := ⟨_, rfl⟩
  have HZ := Lib.hid hZ
  rw [hxn] at hn ⊢
  rw [hZ]
  clear hR hxn hZ
  go_enter Try.func81, Try.ntmps81
  go_wp2
  go_loopw [5] (fun iq wr => ∃ k : Nat, (k + 1 ≤ n ∨ k = 0) ∧ iq = .int .i64 ((k : Int) + 1) ∧ IncR xs (k + 1) ∧ Below w.heap.size w wr) (fun i _ => n + 1 - (intOf i).toNat)
  case atStart => exact ⟨0, .inr rfl, rfl, incR_zero xs, Below.refl _ _⟩
  case round =>
    obtain ⟨k, hk, rfl, hI, hb⟩ := hrel
    have HI := Lib.hid hI
    have HB := Lib.hid hb
    clear hI
    have hk2 : (k : Int) ≤ 1048576 := by omega
    by_cases hlt : k + 1 < n
    · have hlt1 : k < xs.length := by rw [HN.out]; omega
      have hlt2 : k + 1 < xs.length := by rw [HN.out]; exact hlt
      obtain ⟨g, rfl, hg, a0, a1, a2, a3⟩ := row_se4 (HP.out _ hb) hlt1
      obtain ⟨g', he, hg', b0, b1, b2, b3⟩ := row_se4 (HP.out _ hb) hlt2
      injection he with he
      injection he with he
      subst he
      obtain ⟨x, hx⟩ : ∃ x, xs[k] = x := ⟨_, rfl⟩
      obtain ⟨y, hy⟩ : ∃ y, xs[k + 1] = y := ⟨_, rfl⟩
      have HX := Lib.hid hx
      have HY := Lib.hid hy
      rw [hx] at a0 a1 a2 a3
      rw [hy] at b0 b1 b2 b3
      have HS : Hid (Two_se g k x y wr wr) := Lib.hid ⟨⟨⟨a0, a1, a2, a3⟩, b0, b1, b2, b3⟩, Below.refl _ _, hg⟩
      have i1 := fun W => cmp_res x y W
      unfold seV at i1
      obtain ⟨z, hz⟩ : ∃ z, cmpI x.r y.r = z := ⟨_, rfl⟩
      have HC := Lib.hid hz
      rw [hz] at i1
      clear hb a0 a1 a2 a3 b0 b1 b2 b3 hx hy hg hg' hz
      have hw1 : IntKind.i64.wrap ((k : Int) + 1 - 1) = (k : Int) := by rw [IntWalk.i64_in _ (by omega)]; omega
      have hw2 : IntKind.i64.wrap (k : Int) = (k : Int) := IntWalk.i64_in _ (by omega)
      have q1 : (0 : Int) ≤ (k : Int) := by omega
      have q2 : (k : Int) < (n : Int) := by omega
      have q3 : (0 : Int) ≤ (k : Int) + 1 := by omega
      have q4 : (k : Int) + 1 < (n : Int) := by omega
      go_wp2
      go_region_held3 (fun W => (((W.cell? ⟨g, k * 4, none⟩ = some (.string x.r) ∧ W.cell? ⟨g, k * 4 + 1, none⟩ = some (.bool x.o) ∧ W.cell? ⟨g, k * 4 + 2, none⟩ = some (.int .i64 x.p) ∧ W.cell? ⟨g, k * 4 + 3, none⟩ = some (.string x.s)) ∧
        (W.cell? ⟨g, (k + 1) * 4, none⟩ = some (.string y.r) ∧ W.cell? ⟨g, (k + 1) * 4 + 1, none⟩ = some (.bool y.o) ∧ W.cell? ⟨g, (k + 1) * 4 + 2, none⟩ = some (.int .i64 y.p) ∧ W.cell? ⟨g, (k + 1) * 4 + 3, none⟩ = some (.string y.s))) ∧ (Below wr.heap.size wr W ∧ g < wr.heap.size)))
        (with_reducible first | assumption | exact two_se_drew HS.out | exact two_se_on (by assumption) hbN)
        (first | (go_at_call 82; go_fit (i1 _); rintro e wn ⟨rfl, hbN⟩; have HF := Lib.hid (two_se_on (g := g) (k := k) (wr := wr) (by assumption) hbN)))
      have HB2 := Lib.hid (HB.out.trans (HF.out.2.1.mono HB.out.size))
      by_cases hneg : z < 0
      · have hn0 : ¬ (0 : Int) ≤ z := by omega
        have hl := cmp_neg.1 (show cmpI x.r y.r < 0 by rw [HC.out]; exact hneg)
        have HL := Lib.hid hl
        clear hl
        go_wp2
        go_roundw
        case rel => exact ⟨k + 1, .inl (by omega), by go_num, incR_succ HI.out hlt2 (fun _ h' => by
          simp only [Nat.add_sub_cancel]
          rw [HX.out, HY.out]
          exact HL.out), HB2.out⟩
        case measure => simp [intOf]; omega
      · have hn0 : (0 : Int) ≤ z := by omega
        have HN0 := Lib.hid hneg
        clear hneg
        have HL : Hid (Z = false) := Lib.hid (by
          rw [← HZ.out]
          refine incB_false (fun h => HN0.out ?_)
          rw [← HC.out]
          have := h (k + 1) hlt2 (by omega) hlt2 hlt1
          simp only [Nat.add_sub_cancel] at this
          rw [HX.out, HY.out] at this
          exact cmp_neg.2 this)
        go_wp2
        go_ret
        exact ⟨ret_bool HL.out.symm, HB2.out⟩
    · have HL : Hid (Z = true) := Lib.hid (by
        rw [← HZ.out]
        refine incB_true (fun i hi h0 h1 h' => HI.out i hi h0 ?_ h')
        rw [HN.out] at hi
        omega)
      clear hb
      go_wp2
      go_ret
      exact ⟨ret_bool HL.out.symm, HB.out⟩
end Go.Proofs.Ytafdjjdmcnlddaa

namespace Go.Proofs.Ytafdjjdmcnlddaa
set_option linter.unusedSimpArgs false
set_option linter.unusedVariables false
open Go.RowKit

end Go.Proofs.Ytafdjjdmcnlddaa

namespace Go.Proofs.Ytafdjjdmcnlddaa
set_option linter.unusedSimpArgs false
set_option linter.unusedVariables false
open Go.RowKit

set_option maxHeartbeats 4000000 in
theorem spec_resource (s : ByteArray) (w : World) (hs : s.size ≤ maxLen) : Calls Try.prog 108 #[.string s] w (SaysB (partB resC s) w) := by
  unfold maxLen at hs
  go_enter Try.func108, Try.ntmps108
  go_wp2
  go_loop [3] (fun i => ∃ k : Nat, k ≤ s.size ∧ i = .int .i64 k ∧ Upto resC s k) (fun i => s.size - (intOf i).toNat)
  case atStart => exact ⟨0, Nat.zero_le _, rfl, upto_zero _ _⟩
  case round =>
    obtain ⟨k, hk, rfl, hall⟩ := hrel
    have HA := Lib.hid hall
    clear hall
    by_cases hlt : k < s.size
    · go_wp2
      all_goals first
        | (go_ret
           refine ⟨ret_bool ?_, rfl⟩
           unfold partB
           rw [all_no hlt (by clear HA; (try simp only [beq_iff_eq, beq_eq_false_iff_ne] at *); unfold resC; simp; omega), Bool.and_false])
        | (go_round
           case rel => exact ⟨k + 1, by omega, by go_num, upto_succ HA.out hlt (by clear HA; (try simp only [beq_iff_eq, beq_eq_false_iff_ne] at *); unfold resC; simp; omega)⟩
           case measure => simp [intOf]; omega)
    · go_wp2
      go_ret
      exact ⟨ret_bool (by unfold partB; rw [upto_all HA.out hlt, Bool.and_true]; simp; omega), rfl⟩
end Go.Proofs.Ytafdjjdmcnlddaa

namespace Go.Proofs.Ytafdjjdmcnlddaa
set_option linter.unusedSimpArgs false
set_option linter.unusedVariables false
open Go.RowKit

theorem ba_ext {s : ByteArray} {l : List UInt8} (h : s.toList = l) : s = ⟨l.toArray⟩ := by
  rw [ByteArray.toList_eq] at h
  obtain ⟨⟨d⟩⟩ := s
  have h' : d = l := h
  rw [h']
theorem empty_size {s : ByteArray} : (s.toList = [] ↔ s.size = 0) := by
  constructor
  · intro h
    rw [ba_ext h]
    rfl
  · intro h
    have : s = ByteArray.empty := size_zero h
    rw [this, ByteArray.toList_eq]
    rfl
theorem isEmpty_size (s : ByteArray) : s.toList.isEmpty = decide (s.size = 0) := by
  by_cases h : s.size = 0
  · rw [empty_size.2 h, decide_eq_true h]; rfl
  · rw [decide_eq_false h]
    cases e : s.toList with
    | nil => exact absurd (empty_size.1 e) h
    | cons a l => rfl
set_option maxHeartbeats 1000000 in
theorem impl_res9 (t : ByteArray) (w : World) (ht : t.size ≤ maxLen) : Calls Try.prog 65 #[.string t] w (SaysB (resB t) w) := by
  have i1 := fun w => impl_part_res t w ht
  obtain ⟨b, hb⟩ : ∃ b, partB resC t = b := ⟨_, rfl⟩
  rw [hb] at i1
  unfold resB
  rw [hb]
  by_cases h0 : t.size = 0
  · rw [decide_eq_false (show ¬ 0 < t.size by omega)]
    obtain rfl := size_zero h0
    go_enter Try.func65, Try.ntmps65
    go_wp2
    go_ret
    exact ⟨ret_bool (by simp), rfl⟩
  · rw [decide_eq_true (show 0 < t.size by omega)]
    have h1 : t.toList ≠ [] := fun e => h0 (empty_size.1 e)
    have h2 : t.toList.isEmpty = false := by rw [isEmpty_size, decide_eq_false h0]
    go_enter Try.func65, Try.ntmps65
    go_wp2_with (go_at_call 103; go_fit (i1 _); rintro e w' ⟨rfl, rfl⟩)
    go_ret
    exact ⟨ret_bool (by simp), rfl⟩
set_option maxHeartbeats 1000000 in
theorem spec_res9 (t : ByteArray) (w : World) (ht : t.size ≤ maxLen) : Calls Try.prog 72 #[.string t] w (SaysB (resB t) w) := by
  have i1 := fun w => spec_resource t w ht
  obtain ⟨b, hb⟩ : ∃ b, partB resC t = b := ⟨_, rfl⟩
  rw [hb] at i1
  unfold resB
  rw [hb]
  by_cases h0 : t.size = 0
  · rw [decide_eq_false (show ¬ 0 < t.size by omega)]
    obtain rfl := size_zero h0
    go_enter Try.func72, Try.ntmps72
    go_wp2
    go_ret
    exact ⟨ret_bool (by simp), rfl⟩
  · rw [decide_eq_true (show 0 < t.size by omega)]
    have h1 : t.toList ≠ [] := fun e => h0 (empty_size.1 e)
    have h2 : t.toList.isEmpty = false := by rw [isEmpty_size, decide_eq_false h0]
    go_enter Try.func72, Try.ntmps72
    go_wp2_with (go_at_call 108; go_fit (i1 _); rintro e w' ⟨rfl, rfl⟩)
    go_ret
    exact ⟨ret_bool (by simp), rfl⟩
theorem show_cases (t : ByteArray) : t = ⟨#[]⟩ ∨ t = ⟨#[97, 119, 97, 121]⟩ ∨ t = ⟨#[99, 104, 97, 116]⟩ ∨ t = ⟨#[100, 110, 100]⟩ ∨ t = ⟨#[120, 97]⟩ ∨
    (t.toList ≠ [] ∧ (t.toList == [97, 119, 97, 121]) = false ∧ (t.toList == [99, 104, 97, 116]) = false ∧ (t.toList == [100, 110, 100]) = false ∧ (t.toList == [120, 97]) = false) := by
  by_cases h0 : t.toList = []
  · exact .inl (ba_ext h0)
  by_cases h1 : t.toList = [97, 119, 97, 121]
  · exact .inr (.inl (ba_ext h1))
  by_cases h2 : t.toList = [99, 104, 97, 116]
  · exact .inr (.inr (.inl (ba_ext h2)))
  by_cases h3 : t.toList = [100, 110, 100]
  · exact .inr (.inr (.inr (.inl (ba_ext h3))))
  by_cases h4 : t.toList = [120, 97]
  · exact .inr (.inr (.inr (.inr (.inl (ba_ext h4)))))
  exact .inr (.inr (.inr (.inr (.inr ⟨h0, beq_eq_false_iff_ne.2 h1, beq_eq_false_iff_ne.2 h2, beq_eq_false_iff_ne.2 h3, beq_eq_false_iff_ne.2 h4⟩))))
theorem show_no {t : ByteArray} (h0 : t.toList ≠ []) (h1 : (t.toList == [97, 119, 97, 121]) = false) (h2 : (t.toList == [99, 104, 97, 116]) = false) (h3 : (t.toList == [100, 110, 100]) = false) (h4 : (t.toList == [120, 97]) = false) : showB t = false := by
  unfold showB
  rw [beq_eq_false_iff_ne] at h1 h2 h3 h4
  simp [h0, h1, h2, h3, h4]
set_option maxHeartbeats 2000000 in
theorem impl_show9 (t : ByteArray) (w : World) : Calls Try.prog 115 #[.string t] w (SaysB (showB t) w) := by
  rcases show_cases t with rfl | rfl | rfl | rfl | rfl | ⟨h0, h1, h2, h3, h4⟩
  iterate 5
    · go_enter Try.func115, Try.ntmps115
      go_wp2
      go_ret
      exact ⟨ret_bool (by unfold showB; rw [ByteArray.toList_eq]; decide), rfl⟩
  · have h5 : t.toList.isEmpty = false := by rw [isEmpty_size, decide_eq_false (fun e => h0 (empty_size.2 e))]
    rw [show_no h0 h1 h2 h3 h4]
    go_enter Try.func115, Try.ntmps115
    go_wp2
    go_ret
    exact ⟨rfl, rfl⟩
theorem show_any (t : ByteArray) : ([⟨#[]⟩, ⟨#[97, 119, 97, 121]⟩, ⟨#[99, 104, 97, 116]⟩, ⟨#[100, 110, 100]⟩, ⟨#[120, 97]⟩].any fun x : ByteArray => x.toList == t.toList) = showB t := by
  rcases show_cases t with rfl | rfl | rfl | rfl | rfl | ⟨h0, h1, h2, h3, h4⟩
  iterate 5 · (unfold showB; simp only [ByteArray.toList_eq]; decide)
  rw [show_no h0 h1 h2 h3 h4, List.any_eq_false]
  intro x hx
  rw [beq_eq_false_iff_ne] at h1 h2 h3 h4
  simp only [List.mem_cons, List.not_mem_nil, or_false] at hx
  rw [beq_iff_eq]
  intro e
  rcases hx with rfl | rfl | rfl | rfl | rfl <;> rw [ByteArray.toList_eq] at e
  · exact h0 e.symm
  · exact h1 e.symm
  · exact h2 e.symm
  · exact h3 e.symm
  · exact h4 e.symm
set_option maxRecDepth 100000 in
set_option maxHeartbeats 1000000 in
theorem spec_in9 (b c : Nat) (ks : List ByteArray) (k : ByteArray) (w : World) (hlen : ks.length ≤ 1000) (hc : ∀ j (h : j < ks.length), w.cell? ⟨b, j, none⟩ = some (.string ks[j])) :
    Calls Try.prog 109 #[.slice (some ⟨b, 0, none⟩) ks.length c, .string k] w (SaysB (ks.any fun x => x.toList == k.toList) w) := by
  have HC := Lib.hid hc
  clear hc
  go_enter Try.func109, Try.ntmps109
  go_wp2
  go_loop [5] (fun i => ∃ j : Nat, j ≤ ks.length ∧ i = .int .i64 j ∧ ∀ m (h : m < ks.length), m < j → (ks[m].toList == k.toList) = false) (fun i => ks.length - (intOf i).toNat)
  case atStart => exact ⟨0, Nat.zero_le _, rfl, fun _ _ h => absurd h (Nat.not_lt_zero _)⟩
  case round =>
    obtain ⟨j, hj, rfl, hno⟩ := hrel
    have HN := Lib.hid hno
    clear hno
    by_cases hlt : j < ks.length
    · have hcell := HC.out j hlt
      obtain ⟨x, hx⟩ : ∃ x, x = ks[j] := ⟨_, rfl⟩
      rw [← hx] at hcell
      obtain ⟨b1, h1⟩ : ∃ b, (x.toList == k.toList) = b := ⟨_, rfl⟩
      have HX := Lib.hid hx
      clear hx
      cases b1
      · go_wp2
        refine ⟨⟨j + 1, hlt, rfl, fun m hm h => ?_⟩, by simp [intOf]; omega⟩
        by_cases e : m < j
        · exact HN.out m hm e
        · obtain rfl : m = j := by omega
          rw [← HX.out]
          exact h1
      · have HA : Hid ((ks.any fun x => x.toList == k.toList) = true) := Lib.hid (List.any_eq_true.2 ⟨x, by rw [HX.out]; exact List.getElem_mem hlt, h1⟩)
        go_wp2
        go_ret
        exact ⟨ret_bool HA.out.symm, rfl⟩
    · have HA : Hid ((ks.any fun x => x.toList == k.toList) = false) := Lib.hid (by
        rw [List.any_eq_false]
        intro x hx
        obtain ⟨m, hm, rfl⟩ := List.mem_iff_getElem.1 hx
        rw [HN.out m hm (by omega)]
        decide)
      go_wp2
      go_ret
      exact ⟨ret_bool HA.out.symm, rfl⟩
set_option maxRecDepth 100000 in
set_option maxHeartbeats 1000000 in
theorem spec_show9 (t : ByteArray) (w : World) : Calls Try.prog 76 #[.string t] w fun e w' => e = .returned (.bool (showB t)) ∧ Below w.heap.size w w' := by
  have i1 := fun W hc => spec_in9 w.heap.size 5 [⟨#[]⟩, ⟨#[97, 119, 97, 121]⟩, ⟨#[99, 104, 97, 116]⟩, ⟨#[100, 110, 100]⟩, ⟨#[120, 97]⟩] t W (by decide) hc
  rw [show_any] at i1
  have hA := Arr.fresh w 9 [.string ⟨#[]⟩, .string ⟨#[97, 119, 97, 121]⟩, .string ⟨#[99, 104, 97, 116]⟩, .string ⟨#[100, 110, 100]⟩, .string ⟨#[120, 97]⟩]
  have HC : Hid (∀ j (h : j < [(⟨#[]⟩ : ByteArray), ⟨#[97, 119, 97, 121]⟩, ⟨#[99, 104, 97, 116]⟩, ⟨#[100, 110, 100]⟩, ⟨#[120, 97]⟩].length), (w.alloc (.cells #[.string ⟨#[]⟩, .string ⟨#[97, 119, 97, 121]⟩, .string ⟨#[99, 104, 97, 116]⟩, .string ⟨#[100, 110, 100]⟩, .string ⟨#[120, 97]⟩] 9)).cell? ⟨w.heap.size, j, none⟩ = some (.string [(⟨#[]⟩ : ByteArray), ⟨#[97, 119, 97, 121]⟩, ⟨#[99, 104, 97, 116]⟩, ⟨#[100, 110, 100]⟩, ⟨#[120, 97]⟩][j])) := Lib.hid (by
    intro j hj
    match j, hj with
    | 0, _ => exact hA.cell 0
    | 1, _ => exact hA.cell 1
    | 2, _ => exact hA.cell 2
    | 3, _ => exact hA.cell 3
    | 4, _ => exact hA.cell 4)
  clear hA
  go_enter Try.func76, Try.ntmps76
  go_wp2_with (go_at_call 109; go_fit (i1 _ HC.out); rintro e w' ⟨rfl, rfl⟩)
  go_ret
  exact ⟨rfl, (Below.refl _ _).alloc (Nat.le_refl _) _⟩
theorem spec_is9 (z lo hi : Int) (w : World) : Calls Try.prog 75 #[.int .i64 z, .int .i64 lo, .int .i64 hi] w (SaysB (decide (lo ≤ z) && decide (z ≤ hi)) w) := by
  have hd : z < lo ∨ lo ≤ z ∧ z ≤ hi ∨ lo ≤ z ∧ hi < z := by omega
  rcases hd with h | ⟨h, h'⟩ | ⟨h, h'⟩
  · rw [show decide (lo ≤ z) = false by simp; omega]
    go_enter Try.func75, Try.ntmps75
    go_wp2
    go_ret
    exact ⟨ret_bool (by first | (simp; done) | (simp; omega)), rfl⟩
  · rw [show decide (lo ≤ z) = true by simpa using h, show decide (z ≤ hi) = true by simpa using h']
    go_enter Try.func75, Try.ntmps75
    go_wp2
    go_ret
    exact ⟨ret_bool (by first | (simp; done) | (simp; omega)), rfl⟩
  · rw [show decide (z ≤ hi) = false by simp; omega, Bool.and_false]
    go_enter Try.func75, Try.ntmps75
    go_wp2
    go_ret
    exact ⟨ret_bool (by first | (simp; done) | (simp; omega)), rfl⟩
end Go.Proofs.Ytafdjjdmcnlddaa

namespace Go.Proofs.Ytafdjjdmcnlddaa
set_option linter.unusedSimpArgs false
set_option linter.unusedVariables false
open Go.RowKit

theorem nonempty_facts {s : ByteArray} (h : ¬ s.size = 0) : s.toList ≠ [] ∧ s.toList.isEmpty = false := ⟨fun e => h (empty_size.1 e), by rw [isEmpty_size, decide_eq_false h]⟩
set_option maxHeartbeats 4000000 in
theorem impl_se (x : SeL) (w : World) (hr : x.r.size ≤ maxLen) : Calls Try.prog 83 #[seV x] w fun e w' => e = .returned (.bool (seB x)) ∧ Below w.heap.size w w' := by
  obtain ⟨r, o, p, s⟩ := x
  have i1 := fun W => impl_res9 r W hr
  have i2 := fun W => impl_show9 s W
  unfold seB seV
  dsimp only at hr ⊢
  obtain ⟨b1, h1⟩ : ∃ b, resB r = b := ⟨_, rfl⟩
  obtain ⟨b2, h2⟩ : ∃ b, showB s = b := ⟨_, rfl⟩
  rw [h1] at i1 ⊢
  rw [h2] at i2 ⊢
  have HB2 := Lib.hid h2
  clear h1 h2 hr
  cases o
  · by_cases hp : p = 0
    · subst hp
      by_cases hs : s.size = 0
      · obtain rfl := size_zero hs
        have e : showB ByteArray.empty = true := by unfold showB; rw [ByteArray.toList_eq]; decide
        rw [HB2.out] at e
        subst e
        clear hs
        cases b1 <;>
          (go_enter Try.func83, Try.ntmps83
           go_wp2_with (first
             | (go_at_call 65; go_fit (i1 _); rintro e w' ⟨rfl, rfl⟩)
             | (go_at_call 115; go_fit (i2 _); rintro e w' ⟨rfl, rfl⟩))
           go_ret
           exact ⟨ret_bool (by simp; try rfl), (Below.refl _ _).alloc (Nat.le_refl _) _⟩)
      · obtain ⟨q1, q2⟩ := nonempty_facts hs
        rw [decide_eq_false hs]
        go_enter Try.func83, Try.ntmps83
        go_wp2
        go_ret
        exact ⟨ret_bool (by simp), (Below.refl _ _).alloc (Nat.le_refl _) _⟩
    · have q1 : (p != 0) = true := by simpa using hp
      rw [decide_eq_false hp]
      go_enter Try.func83, Try.ntmps83
      go_wp2
      go_ret
      exact ⟨ret_bool (by simp), (Below.refl _ _).alloc (Nat.le_refl _) _⟩
  · rcases (by omega : p < -128 ∨ (-128 ≤ p ∧ p ≤ 127) ∨ 127 < p) with hp | ⟨hp, hq⟩ | hp
    · rw [decide_eq_false (show ¬ -128 ≤ p by omega)]
      cases b1 <;>
        (go_enter Try.func83, Try.ntmps83
         go_wp2_with (first
           | (go_at_call 65; go_fit (i1 _); rintro e w' ⟨rfl, rfl⟩)
           | (go_at_call 115; go_fit (i2 _); rintro e w' ⟨rfl, rfl⟩))
         go_ret
         exact ⟨ret_bool (by simp), (Below.refl _ _).alloc (Nat.le_refl _) _⟩)
    · rw [decide_eq_true hp, decide_eq_true hq]
      cases b1 <;>
        (go_enter Try.func83, Try.ntmps83
         go_wp2_with (first
           | (go_at_call 65; go_fit (i1 _); rintro e w' ⟨rfl, rfl⟩)
           | (go_at_call 115; go_fit (i2 _); rintro e w' ⟨rfl, rfl⟩))
         go_ret
         exact ⟨ret_bool (by simp), (Below.refl _ _).alloc (Nat.le_refl _) _⟩)
    · rw [decide_eq_false (show ¬ p ≤ 127 by omega)]
      have hq : -128 ≤ p := by omega
      cases b1 <;>
        (go_enter Try.func83, Try.ntmps83
         go_wp2_with (first
           | (go_at_call 65; go_fit (i1 _); rintro e w' ⟨rfl, rfl⟩)
           | (go_at_call 115; go_fit (i2 _); rintro e w' ⟨rfl, rfl⟩))
         go_ret
         exact ⟨ret_bool (by simp), (Below.refl _ _).alloc (Nat.le_refl _) _⟩)
set_option maxRecDepth 100000 in
set_option maxHeartbeats 1000000 in
theorem impl_seright (xs : List SeL) (p : Option Addr) (c : Nat) (w : World) (hn : xs.length ≤ 1048576) (hw : ∀ x ∈ xs, x.r.size ≤ maxLen) (hR : RowC seC 4 w p xs) :
    Calls Try.prog 30 #[.slice p xs.length c] w fun e w' => e = .returned (.bool (okB xs)) ∧ Below w.heap.size w w' := by
  have i1 := impl_inc xs p c w hn hR
  obtain ⟨n, hxn⟩ : ∃ n, xs.length = n := ⟨_, rfl⟩
  have HP := Lib.hid (fun W (h : Below w.heap.size w W) => hR.on h)
  have HW := Lib.hid hw
  have HN := Lib.hid hxn
  obtain ⟨b1, h1⟩ : ∃ b, incB xs = b := ⟨_, rfl⟩
  rw [hxn] at hn i1 ⊢
  rw [h1] at i1
  have H1 := Lib.hid h1
  obtain ⟨Z, hZ⟩ : ∃ Z, okB xs = Z := ⟨_, rfl⟩
  have HZ := Lib.hid hZ
  rw [hZ]
  clear hR hw hxn h1 hZ
  by_cases hbig : 5 < n
  · have HL : Hid (Z = false) := Lib.hid (by rw [← HZ.out]; exact okB_false (fun h => by have := h.1; rw [HN.out] at this; omega))
    go_enter Try.func30, Try.ntmps30
    go_wp2
    go_ret
    exact ⟨ret_bool HL.out.symm, Below.refl _ _⟩
  cases b1
  · have HL : Hid (Z = false) := Lib.hid (by rw [← HZ.out]; exact okB_false (fun h => by have := incB_true h.2.1; rw [H1.out] at this; cases this))
    go_enter Try.func30, Try.ntmps30
    go_wp2_with (go_at_call 81; go_fit i1; rintro e w' ⟨rfl, hb⟩)
    go_ret
    exact ⟨ret_bool HL.out.symm, hb⟩
  go_enter Try.func30, Try.ntmps30
  go_wp2_with (go_at_call 81; go_fit i1; rintro e w1 ⟨rfl, hb⟩; have HB1 := Lib.hid hb; clear hb)
  go_loopw [14] (fun iq wr => ∃ k : Nat, k ≤ n ∧ iq = .int .i64 k ∧ AllR xs k ∧ Below w.heap.size w wr) (fun i _ => n - (intOf i).toNat)
  case atStart => exact ⟨0, Nat.zero_le _, rfl, allR_zero xs, HB1.out⟩
  case round =>
    obtain ⟨k, hk, rfl, hA, hb⟩ := hrel
    have HA := Lib.hid hA
    have HB := Lib.hid hb
    clear hA
    by_cases hlt : k < n
    · have hlt1 : k < xs.length := by rw [HN.out]; exact hlt
      obtain ⟨g, rfl, hg, a0, a1, a2, a3⟩ := row_se4 (HP.out _ hb) hlt1
      have hxw := HW.out _ (List.getElem_mem hlt1)
      obtain ⟨x, hx⟩ : ∃ x, xs[k] = x := ⟨_, rfl⟩
      rw [hx] at a0 a1 a2 a3 hxw
      have i3 := fun W => impl_se x W hxw
      obtain ⟨b3, h3⟩ : ∃ b, seB x = b := ⟨_, rfl⟩
      rw [h3] at i3
      unfold seV at i3
      have H3 : Hid (seB xs[k] = b3) := Lib.hid (by rw [hx]; exact h3)
      clear hb hx h3 hxw
      cases b3
      · have HL : Hid (Z = false) := Lib.hid (by rw [← HZ.out]; exact okB_false (fun h => by have := h.2.2 k hlt1 hlt1; rw [H3.out] at this; cases this))
        go_wp2_with (go_at_call 83; go_fit (i3 _); rintro e w2 ⟨rfl, hb2⟩)
        go_ret
        exact ⟨ret_bool HL.out.symm, HB.out.trans (hb2.mono HB.out.size)⟩
      · go_wp2_with (go_at_call 83; go_fit (i3 _); rintro e w2 ⟨rfl, hb2⟩)
        go_roundw
        case rel => exact ⟨k + 1, by omega, by go_num, allR_succ HA.out hlt1 H3.out, HB.out.trans (hb2.mono HB.out.size)⟩
        case measure => simp [intOf]; omega
    · have HL : Hid (Z = true) := Lib.hid (by
        rw [← HZ.out]
        refine okB_true ⟨by rw [HN.out]; omega, incB_iff.1 H1.out, fun i hi h0 => HA.out i hi ?_⟩
        rw [HN.out] at hi
        omega)
      clear hb
      go_wp2
      go_ret
      exact ⟨ret_bool HL.out.symm, HB.out⟩
end Go.Proofs.Ytafdjjdmcnlddaa

namespace Go.Proofs.Ytafdjjdmcnlddaa
set_option linter.unusedSimpArgs false
set_option linter.unusedVariables false
open Go.RowKit

theorem takeQ {P : Program} {ops : Array Oper} {Q : Exit → Act → World → Prop} {md : Region.Mode} {S : World → Prop} {i k : Nat} {oi : Oper} {v : Value} {fuel : Nat} {listed : Array Bool} {a : Act} {w : World} (hi : ops[i]? = some oi) (hd : oi.dst = some k)
    (hs : Region.noSelect ops = true) (hf : Region.free md ops listed i = true) (hr : (Region.ready md ops listed).contains i = true) (hQ : ∀ c a w, Q (.panic c) (a.put (some k) v) w → Q (.panic c) a w)
    (hw : Region.wanted oi (yielded ops a.tmps) = true) (hv : ∀ w, S w → (execOp a.eval oi).run P w = .ok (.value v) w) (hS : S w) (h : wpAnyH P md ops Q S fuel (listed.setIfInBounds i true) (a.put (some k) v) w) : wpAnyH P md ops Q S (fuel + 1) listed a w := by
  rw [← hd] at hQ h
  exact wpAnyH_take hi hs hf hr hQ (Or.inl ⟨hw, hv⟩) hS h
theorem skipQ {P : Program} {ops : Array Oper} {Q : Exit → Act → World → Prop} {md : Region.Mode} {S : World → Prop} {i k : Nat} {oi : Oper} {fuel : Nat} {listed : Array Bool} {a : Act} {w : World} (hi : ops[i]? = some oi) (hd : oi.dst = some k)
    (hs : Region.noSelect ops = true) (hf : Region.free md ops listed i = true) (hr : (Region.ready md ops listed).contains i = true) (hQ : ∀ c a w, Q (.panic c) (a.put (some k) undef) w → Q (.panic c) a w)
    (hw : Region.wanted oi (yielded ops a.tmps) = false) (hS : S w) (h : wpAnyH P md ops Q S fuel (listed.setIfInBounds i true) (a.put (some k) undef) w) : wpAnyH P md ops Q S (fuel + 1) listed a w := by
  rw [← hd] at hQ h
  exact wpAnyH_take hi hs hf hr hQ (Or.inr ⟨hw, rfl⟩) hS h
end Go.Proofs.Ytafdjjdmcnlddaa

namespace Go.Proofs.Ytafdjjdmcnlddaa
set_option linter.unusedSimpArgs false
set_option linter.unusedVariables false
open Go.RowKit

/-- Slots are written. -/
def putAll (a : Act) : List Nat → (Nat → Value) → Act
  | [], _ => a
  | s :: r, vs => putAll (a.put (some s) (vs s)) r vs
/-- A post that bears no panic. -/
def NormalOnly (R : Act → World → Prop) : Exit → Act → World → Prop
  | .normal, a, w => R a w
  | _, _, _ => False
/-- Whatever way a region goes: the slots that it writes hold some values, and R holds of them and of the world. -/
theorem region_join {P : Program} {c : Code} {Q : Exit → Act → World → Prop} {a : Act} {w : World} (slots : List Nat) (R : (Nat → Value) → World → Prop)
    (h1 : c.wp P (NormalOnly fun a' w' => R (fun k => a'.tmps.getD k undef) w' ∧ a' = putAll a slots (fun k => a'.tmps.getD k undef)) a w)
    (h2 : ∀ vs w', R vs w' → Q .normal (putAll a slots vs) w') : c.wp P Q a w := by
  refine Code.wp_mono (fun e a' w' h => ?_) h1
  cases e with
  | normal =>
    obtain ⟨hR, e⟩ := h
    rw [e]
    exact h2 _ _ hR
  | _ => exact (h : False).elim
end Go.Proofs.Ytafdjjdmcnlddaa

namespace Go.Proofs.Ytafdjjdmcnlddaa
set_option linter.unusedSimpArgs false
set_option linter.unusedVariables false
open Go.RowKit

theorem arrS_on {w w1 : World} {b t : Nat} {cs : List Value} (h : Arr w b t cs) (hb : Below w.heap.size w w1) : Arr w1 b t cs := (hb.block b (Array.getElem?_eq_some_iff.1 h).1).trans h
theorem arrS_cells {w : World} {b t : Nat} {a0 a1 a2 a3 : Value} (h : Arr w b t [a0, a1, a2, a3]) : w.cell? ⟨b, 0, none⟩ = some a0 ∧ w.cell? ⟨b, 1, none⟩ = some a1 ∧ w.cell? ⟨b, 2, none⟩ = some a2 ∧ w.cell? ⟨b, 3, none⟩ = some a3 := ⟨h.cell 0, h.cell 1, h.cell 2, h.cell 3⟩
theorem incR_0 (xs : List SeL) : IncR xs 0 := fun i _ h0 h1 => by omega
/-- Is the element ahead less? -/
def ltB (xs : List SeL) (k : Nat) (r : ByteArray) : Bool := match k with
  | 0 => true
  | m + 1 => match xs[m]? with
    | some y => Op.bytesLess y.r.toList r.toList
    | none => true
set_option maxRecDepth 100000 in
set_option maxHeartbeats 16000000 in
theorem spec_seright (xs : List SeL) (p0 : Option Addr) (c : Nat) (w : World) (hn : xs.length ≤ 1048576) (hw : ∀ x ∈ xs, x.r.size ≤ maxLen) (hR : RowC seC 4 w p0 xs) :
    Calls Try.prog 31 #[.slice p0 xs.length c] w fun e w' => e = .returned (.bool (okB xs)) ∧ Below w.heap.size w w' := by
  obtain ⟨n, hxn⟩ : ∃ n, xs.length = n := ⟨_, rfl⟩
  have HP := Lib.hid (fun W (h : Below w.heap.size w W) => hR.on h)
  have HW := Lib.hid hw
  have HN := Lib.hid hxn
  rw [hxn] at hn ⊢
  obtain ⟨Z, hZ⟩ : ∃ Z, okB xs = Z := ⟨_, rfl⟩
  have HZ := Lib.hid hZ
  rw [hZ]
  clear hR hw hxn hZ
  go_enter Try.func31, Try.ntmps31
  go_wp2
  go_loopw [3] (fun iq wr => ∃ k : Nat, k ≤ n ∧ iq = .int .i64 k ∧ IncR xs k ∧ AllR xs k ∧ Below w.heap.size w wr) (fun i _ => n - (intOf i).toNat)
  case atStart => exact ⟨0, Nat.zero_le _, rfl, incR_0 xs, allR_zero xs, Below.refl _ _⟩
  case round =>
    obtain ⟨k, hk, rfl, hI, hA, hb⟩ := hrel
    have HI := Lib.hid hI
    have HA := Lib.hid hA
    have HB := Lib.hid hb
    clear hA hI
    by_cases hlt : k < n
    · have hlt1 : k < xs.length := by rw [HN.out]; exact hlt
      have HRr := HP.out _ hb
      obtain ⟨g, rfl, hg, a0, a1, a2, a3⟩ := row_se4 HRr hlt1
      have hxw := HW.out _ (List.getElem_mem hlt1)
      obtain ⟨x, hx⟩ : ∃ x, xs[k] = x := ⟨_, rfl⟩
      rw [hx] at a0 a1 a2 a3 hxw
      obtain ⟨r, o, p, s⟩ := x
      dsimp only at a0 a1 a2 a3 hxw
      have jA := fun W => spec_res9 r W hxw
      have jD := fun W => spec_is9 p (-128) 127 W
      have jE := fun W => spec_show9 s W
      obtain ⟨b1, h1⟩ : ∃ b, resB r = b := ⟨_, rfl⟩
      obtain ⟨d, h2⟩ : ∃ b, (decide (-128 ≤ p) && decide (p ≤ 127)) = b := ⟨_, rfl⟩
      obtain ⟨e, h3⟩ : ∃ b, showB s = b := ⟨_, rfl⟩
      obtain ⟨bp, h4⟩ : ∃ b, (p != 0) = b := ⟨_, rfl⟩
      obtain ⟨es, h5⟩ : ∃ b, s.toList.isEmpty = b := ⟨_, rfl⟩
      rw [h1] at jA
      rw [h2] at jD
      rw [h3] at jE
      obtain ⟨lt0, h6⟩ : ∃ b, ltB xs k r = b := ⟨_, rfl⟩
      obtain ⟨bad, hbad⟩ : ∃ b, (!(b1 && lt0 && d && e && (o || (!bp && es)))) = b := ⟨_, rfl⟩
      have HBAD : Hid (bad = !(b1 && lt0 && d && e && (o || (!bp && es)))) := Lib.hid hbad.symm
      have HLT0 : Hid (k = 0 → lt0 = true) := Lib.hid (fun h => by subst h; rw [← h6]; rfl)
      have HLT1 : Hid (∀ m, k = m + 1 → ∀ h : m < xs.length, lt0 = Op.bytesLess xs[m].r.toList r.toList) := Lib.hid (fun m h hm => by
        subst h
        rw [← h6]
        show (match xs[m]? with | some y => Op.bytesLess y.r.toList r.toList | none => true) = _
        rw [List.getElem?_eq_getElem hm])
      have HSE : Hid (seB xs[k] = (b1 && d && e && (o || (!bp && es)))) := Lib.hid (by
        rw [hx]
        unfold seB
        dsimp only
        rw [h1, h2, h3, ← h4, ← h5, isEmpty_size]
        have hz : (!(p != 0)) = decide (p = 0) := by
          by_cases q : p = 0
          · subst q; rfl
          · have : (p != 0) = true := by simpa using q
            rw [this, decide_eq_false q]; rfl
        rw [hz]
        cases (o || decide (p = 0) && decide (s.size = 0)) <;> cases b1 <;> cases d <;> cases e <;> rfl)
      have HXR : Hid (xs[k].r = r) := Lib.hid (by rw [hx])
      have HLK : Hid (lt0 = ltB xs k r) := Lib.hid h6.symm
      have HS0 : Hid (∀ W, Below wr.heap.size wr W → RowC seC 4 W (some ⟨g, 0, none⟩) xs ∧ Below w.heap.size w W) := Lib.hid (fun W h => ⟨HRr.on h, hb.trans (h.mono hb.size)⟩)
      clear hb hx hxw h1 h2 h3 h6 hbad HRr
      go_wp2
      have hAx : Arr (wr.alloc (.cells #[.string r, .bool o, .int .i64 p, .string s] 84)) wr.heap.size 84 [.string r, .bool o, .int .i64 p, .string s] := Arr.fresh wr 84 [.string r, .bool o, .int .i64 p, .string s]
      have HX0 := Lib.hid (HS0.out (wr.alloc (.cells #[.string r, .bool o, .int .i64 p, .string s] 84)) ((Below.refl _ _).alloc (Nat.le_refl _) _))
      have HX1 := Lib.hid hAx
      clear hAx HS0 a0 a1 a2 a3
      refine region_join [15, 16, 17, 18, 19, 20, 21, 22, 23, 24, 25, 26, 27, 28, 29, 30, 31, 32, 33, 34, 35, 36, 37, 38, 39, 40, 41, 42, 43, 44, 45, 46, 47, 48, 49, 50, 51, 52, 53, 54, 55, 56, 57, 58, 59, 60] (fun vs W => vs 60 = .bool bad ∧ (Arr W wr.heap.size 84 [.string r, .bool o, .int .i64 p, .string s] ∧ RowC seC 4 W (some ⟨g, 0, none⟩) xs ∧ Below w.heap.size w W)) ?_ ?_
      · refine wp_region_held_drew (S := fun W => (Arr W wr.heap.size 84 [.string r, .bool o, .int .i64 p, .string s] ∧ RowC seC 4 W (some ⟨g, 0, none⟩) xs ∧ Below w.heap.size w W)) (by kernel_rfl) ⟨HX1.out, HX0.out.1, HX0.out.2.drew⟩ (fun hHeld => ?_)
        · generalize (wr.alloc (.cells #[.string r, .bool o, .int .i64 p, .string s] 84)).drew = Wd at hHeld ⊢
          generalize wr.heap.size = bx at hHeld ⊢
          clear HX0 HX1
          refine takeQ (i := 0) (k := 15) (v := .pointer (some ⟨bx, 0, none⟩)) rfl (by rfl) (by kernel_rfl) (by kernel_rfl) (by kernel_rfl) (fun _ _ _ h => h) (by rfl) ?_ hHeld ?_
          · intro w1 hSw; go_simp
          (try simp only [Act.put, List.setIfInBounds_toArray, List.set_cons_zero, List.set_cons_succ])
          refine takeQ (i := 1) (k := 16) (v := .string r) rfl (by rfl) (by kernel_rfl) (by kernel_rfl) (by kernel_rfl) (fun _ _ _ h => h) (by rfl) ?_ hHeld ?_
          · intro w1 hSw; (obtain ⟨m0, m1, m2, m3⟩ := arrS_cells hSw.1); go_simp
          (try simp only [Act.put, List.setIfInBounds_toArray, List.set_cons_zero, List.set_cons_succ])
          refine wpAnyH_ready (rs := [2]) (by kernel_rfl) (by simp) ?_
          refine AllReadyH.cons rfl (fun K hK => ?_) AllReadyH.nil
          rw [if_pos (by rfl)]
          go_simp
          go_fit (jA _)
          rintro e0 wz ⟨rfl, hwz⟩
          subst hwz
          refine hK.out _ _ hHeld (fun hHeld => ?_)
          clear hK K
          (try simp only [Act.put, List.setIfInBounds_toArray, List.set_cons_zero, List.set_cons_succ])
          cases b1
          · skip
            refine takeQ (i := 3) (k := 18) (v := .bool true) rfl (by rfl) (by kernel_rfl) (by kernel_rfl) (by kernel_rfl) (fun _ _ _ h => h) (by rfl) ?_ hHeld ?_
            · intro w1 hSw; go_simp
            (try simp only [Act.put, List.setIfInBounds_toArray, List.set_cons_zero, List.set_cons_succ])
            refine takeQ (i := 4) (k := 19) (v := .bool true) rfl (by rfl) (by kernel_rfl) (by kernel_rfl) (by kernel_rfl) (fun _ _ _ h => h) (by rfl) ?_ hHeld ?_
            · intro w1 hSw; go_simp
            (try simp only [Act.put, List.setIfInBounds_toArray, List.set_cons_zero, List.set_cons_succ])
            refine skipQ (i := 5) (k := 20) rfl (by rfl) (by kernel_rfl) (by kernel_rfl) (by kernel_rfl) (fun _ _ _ h => h) (by rfl) hHeld ?_
            (try simp only [Act.put, List.setIfInBounds_toArray, List.set_cons_zero, List.set_cons_succ])
            refine skipQ (i := 6) (k := 21) rfl (by rfl) (by kernel_rfl) (by kernel_rfl) (by kernel_rfl) (fun _ _ _ h => h) (by rfl) hHeld ?_
            (try simp only [Act.put, List.setIfInBounds_toArray, List.set_cons_zero, List.set_cons_succ])
            refine skipQ (i := 7) (k := 22) rfl (by rfl) (by kernel_rfl) (by kernel_rfl) (by kernel_rfl) (fun _ _ _ h => h) (by rfl) hHeld ?_
            (try simp only [Act.put, List.setIfInBounds_toArray, List.set_cons_zero, List.set_cons_succ])
            refine skipQ (i := 8) (k := 23) rfl (by rfl) (by kernel_rfl) (by kernel_rfl) (by kernel_rfl) (fun _ _ _ h => h) (by rfl) hHeld ?_
            (try simp only [Act.put, List.setIfInBounds_toArray, List.set_cons_zero, List.set_cons_succ])
            refine skipQ (i := 9) (k := 24) rfl (by rfl) (by kernel_rfl) (by kernel_rfl) (by kernel_rfl) (fun _ _ _ h => h) (by rfl) hHeld ?_
            (try simp only [Act.put, List.setIfInBounds_toArray, List.set_cons_zero, List.set_cons_succ])
            refine skipQ (i := 10) (k := 25) rfl (by rfl) (by kernel_rfl) (by kernel_rfl) (by kernel_rfl) (fun _ _ _ h => h) (by rfl) hHeld ?_
            (try simp only [Act.put, List.setIfInBounds_toArray, List.set_cons_zero, List.set_cons_succ])
            refine skipQ (i := 11) (k := 26) rfl (by rfl) (by kernel_rfl) (by kernel_rfl) (by kernel_rfl) (fun _ _ _ h => h) (by rfl) hHeld ?_
            (try simp only [Act.put, List.setIfInBounds_toArray, List.set_cons_zero, List.set_cons_succ])
            refine skipQ (i := 12) (k := 27) rfl (by rfl) (by kernel_rfl) (by kernel_rfl) (by kernel_rfl) (fun _ _ _ h => h) (by rfl) hHeld ?_
            (try simp only [Act.put, List.setIfInBounds_toArray, List.set_cons_zero, List.set_cons_succ])
            refine skipQ (i := 13) (k := 28) rfl (by rfl) (by kernel_rfl) (by kernel_rfl) (by kernel_rfl) (fun _ _ _ h => h) (by rfl) hHeld ?_
            (try simp only [Act.put, List.setIfInBounds_toArray, List.set_cons_zero, List.set_cons_succ])
            refine skipQ (i := 14) (k := 29) rfl (by rfl) (by kernel_rfl) (by kernel_rfl) (by kernel_rfl) (fun _ _ _ h => h) (by rfl) hHeld ?_
            (try simp only [Act.put, List.setIfInBounds_toArray, List.set_cons_zero, List.set_cons_succ])
            refine skipQ (i := 15) (k := 30) rfl (by rfl) (by kernel_rfl) (by kernel_rfl) (by kernel_rfl) (fun _ _ _ h => h) (by rfl) hHeld ?_
            (try simp only [Act.put, List.setIfInBounds_toArray, List.set_cons_zero, List.set_cons_succ])
            refine skipQ (i := 16) (k := 31) rfl (by rfl) (by kernel_rfl) (by kernel_rfl) (by kernel_rfl) (fun _ _ _ h => h) (by rfl) hHeld ?_
            (try simp only [Act.put, List.setIfInBounds_toArray, List.set_cons_zero, List.set_cons_succ])
            refine skipQ (i := 17) (k := 32) rfl (by rfl) (by kernel_rfl) (by kernel_rfl) (by kernel_rfl) (fun _ _ _ h => h) (by rfl) hHeld ?_
            (try simp only [Act.put, List.setIfInBounds_toArray, List.set_cons_zero, List.set_cons_succ])
            refine takeQ (i := 18) (k := 33) (v := .bool true) rfl (by rfl) (by kernel_rfl) (by kernel_rfl) (by kernel_rfl) (fun _ _ _ h => h) (by rfl) ?_ hHeld ?_
            · intro w1 hSw; go_simp
            (try simp only [Act.put, List.setIfInBounds_toArray, List.set_cons_zero, List.set_cons_succ])
            refine takeQ (i := 19) (k := 34) (v := .bool true) rfl (by rfl) (by kernel_rfl) (by kernel_rfl) (by kernel_rfl) (fun _ _ _ h => h) (by rfl) ?_ hHeld ?_
            · intro w1 hSw; go_simp
            (try simp only [Act.put, List.setIfInBounds_toArray, List.set_cons_zero, List.set_cons_succ])
            refine skipQ (i := 20) (k := 35) rfl (by rfl) (by kernel_rfl) (by kernel_rfl) (by kernel_rfl) (fun _ _ _ h => h) (by rfl) hHeld ?_
            (try simp only [Act.put, List.setIfInBounds_toArray, List.set_cons_zero, List.set_cons_succ])
            refine skipQ (i := 21) (k := 36) rfl (by rfl) (by kernel_rfl) (by kernel_rfl) (by kernel_rfl) (fun _ _ _ h => h) (by rfl) hHeld ?_
            (try simp only [Act.put, List.setIfInBounds_toArray, List.set_cons_zero, List.set_cons_succ])
            refine skipQ (i := 22) (k := 37) rfl (by rfl) (by kernel_rfl) (by kernel_rfl) (by kernel_rfl) (fun _ _ _ h => h) (by rfl) hHeld ?_
            (try simp only [Act.put, List.setIfInBounds_toArray, List.set_cons_zero, List.set_cons_succ])
            refine skipQ (i := 23) (k := 38) rfl (by rfl) (by kernel_rfl) (by kernel_rfl) (by kernel_rfl) (fun _ _ _ h => h) (by rfl) hHeld ?_
            (try simp only [Act.put, List.setIfInBounds_toArray, List.set_cons_zero, List.set_cons_succ])
            refine takeQ (i := 24) (k := 39) (v := .bool true) rfl (by rfl) (by kernel_rfl) (by kernel_rfl) (by kernel_rfl) (fun _ _ _ h => h) (by rfl) ?_ hHeld ?_
            · intro w1 hSw; go_simp
            (try simp only [Act.put, List.setIfInBounds_toArray, List.set_cons_zero, List.set_cons_succ])
            refine takeQ (i := 25) (k := 40) (v := .bool true) rfl (by rfl) (by kernel_rfl) (by kernel_rfl) (by kernel_rfl) (fun _ _ _ h => h) (by rfl) ?_ hHeld ?_
            · intro w1 hSw; go_simp
            (try simp only [Act.put, List.setIfInBounds_toArray, List.set_cons_zero, List.set_cons_succ])
            refine skipQ (i := 26) (k := 41) rfl (by rfl) (by kernel_rfl) (by kernel_rfl) (by kernel_rfl) (fun _ _ _ h => h) (by rfl) hHeld ?_
            (try simp only [Act.put, List.setIfInBounds_toArray, List.set_cons_zero, List.set_cons_succ])
            refine skipQ (i := 27) (k := 42) rfl (by rfl) (by kernel_rfl) (by kernel_rfl) (by kernel_rfl) (fun _ _ _ h => h) (by rfl) hHeld ?_
            (try simp only [Act.put, List.setIfInBounds_toArray, List.set_cons_zero, List.set_cons_succ])
            refine skipQ (i := 28) (k := 43) rfl (by rfl) (by kernel_rfl) (by kernel_rfl) (by kernel_rfl) (fun _ _ _ h => h) (by rfl) hHeld ?_
            (try simp only [Act.put, List.setIfInBounds_toArray, List.set_cons_zero, List.set_cons_succ])
            refine skipQ (i := 29) (k := 44) rfl (by rfl) (by kernel_rfl) (by kernel_rfl) (by kernel_rfl) (fun _ _ _ h => h) (by rfl) hHeld ?_
            (try simp only [Act.put, List.setIfInBounds_toArray, List.set_cons_zero, List.set_cons_succ])
            refine takeQ (i := 30) (k := 45) (v := .bool true) rfl (by rfl) (by kernel_rfl) (by kernel_rfl) (by kernel_rfl) (fun _ _ _ h => h) (by rfl) ?_ hHeld ?_
            · intro w1 hSw; go_simp
            (try simp only [Act.put, List.setIfInBounds_toArray, List.set_cons_zero, List.set_cons_succ])
            refine takeQ (i := 31) (k := 46) (v := .bool true) rfl (by rfl) (by kernel_rfl) (by kernel_rfl) (by kernel_rfl) (fun _ _ _ h => h) (by rfl) ?_ hHeld ?_
            · intro w1 hSw; go_simp
            (try simp only [Act.put, List.setIfInBounds_toArray, List.set_cons_zero, List.set_cons_succ])
            refine skipQ (i := 32) (k := 47) rfl (by rfl) (by kernel_rfl) (by kernel_rfl) (by kernel_rfl) (fun _ _ _ h => h) (by rfl) hHeld ?_
            (try simp only [Act.put, List.setIfInBounds_toArray, List.set_cons_zero, List.set_cons_succ])
            refine skipQ (i := 33) (k := 48) rfl (by rfl) (by kernel_rfl) (by kernel_rfl) (by kernel_rfl) (fun _ _ _ h => h) (by rfl) hHeld ?_
            (try simp only [Act.put, List.setIfInBounds_toArray, List.set_cons_zero, List.set_cons_succ])
            refine skipQ (i := 34) (k := 49) rfl (by rfl) (by kernel_rfl) (by kernel_rfl) (by kernel_rfl) (fun _ _ _ h => h) (by rfl) hHeld ?_
            (try simp only [Act.put, List.setIfInBounds_toArray, List.set_cons_zero, List.set_cons_succ])
            refine skipQ (i := 35) (k := 50) rfl (by rfl) (by kernel_rfl) (by kernel_rfl) (by kernel_rfl) (fun _ _ _ h => h) (by rfl) hHeld ?_
            (try simp only [Act.put, List.setIfInBounds_toArray, List.set_cons_zero, List.set_cons_succ])
            refine skipQ (i := 36) (k := 51) rfl (by rfl) (by kernel_rfl) (by kernel_rfl) (by kernel_rfl) (fun _ _ _ h => h) (by rfl) hHeld ?_
            (try simp only [Act.put, List.setIfInBounds_toArray, List.set_cons_zero, List.set_cons_succ])
            refine skipQ (i := 37) (k := 52) rfl (by rfl) (by kernel_rfl) (by kernel_rfl) (by kernel_rfl) (fun _ _ _ h => h) (by rfl) hHeld ?_
            (try simp only [Act.put, List.setIfInBounds_toArray, List.set_cons_zero, List.set_cons_succ])
            refine skipQ (i := 38) (k := 53) rfl (by rfl) (by kernel_rfl) (by kernel_rfl) (by kernel_rfl) (fun _ _ _ h => h) (by rfl) hHeld ?_
            (try simp only [Act.put, List.setIfInBounds_toArray, List.set_cons_zero, List.set_cons_succ])
            refine skipQ (i := 39) (k := 54) rfl (by rfl) (by kernel_rfl) (by kernel_rfl) (by kernel_rfl) (fun _ _ _ h => h) (by rfl) hHeld ?_
            (try simp only [Act.put, List.setIfInBounds_toArray, List.set_cons_zero, List.set_cons_succ])
            refine skipQ (i := 40) (k := 55) rfl (by rfl) (by kernel_rfl) (by kernel_rfl) (by kernel_rfl) (fun _ _ _ h => h) (by rfl) hHeld ?_
            (try simp only [Act.put, List.setIfInBounds_toArray, List.set_cons_zero, List.set_cons_succ])
            refine skipQ (i := 41) (k := 56) rfl (by rfl) (by kernel_rfl) (by kernel_rfl) (by kernel_rfl) (fun _ _ _ h => h) (by rfl) hHeld ?_
            (try simp only [Act.put, List.setIfInBounds_toArray, List.set_cons_zero, List.set_cons_succ])
            refine skipQ (i := 42) (k := 57) rfl (by rfl) (by kernel_rfl) (by kernel_rfl) (by kernel_rfl) (fun _ _ _ h => h) (by rfl) hHeld ?_
            (try simp only [Act.put, List.setIfInBounds_toArray, List.set_cons_zero, List.set_cons_succ])
            refine skipQ (i := 43) (k := 58) rfl (by rfl) (by kernel_rfl) (by kernel_rfl) (by kernel_rfl) (fun _ _ _ h => h) (by rfl) hHeld ?_
            (try simp only [Act.put, List.setIfInBounds_toArray, List.set_cons_zero, List.set_cons_succ])
            refine skipQ (i := 44) (k := 59) rfl (by rfl) (by kernel_rfl) (by kernel_rfl) (by kernel_rfl) (fun _ _ _ h => h) (by rfl) hHeld ?_
            (try simp only [Act.put, List.setIfInBounds_toArray, List.set_cons_zero, List.set_cons_succ])
            refine takeQ (i := 45) (k := 60) (v := .bool true) rfl (by rfl) (by kernel_rfl) (by kernel_rfl) (by kernel_rfl) (fun _ _ _ h => h) (by rfl) ?_ hHeld ?_
            · intro w1 hSw; go_simp
            (try simp only [Act.put, List.setIfInBounds_toArray, List.set_cons_zero, List.set_cons_succ])
            refine wpAnyH_done (by kernel_rfl) ?_ _
            exact ⟨⟨congrArg Value.bool (show true = bad by rw [HBAD.out]; simp), hHeld⟩, by simp only [putAll, Act.put, List.setIfInBounds_toArray, List.set_cons_zero, List.set_cons_succ]; rfl⟩
          · skip
            refine takeQ (i := 3) (k := 18) (v := .bool false) rfl (by rfl) (by kernel_rfl) (by kernel_rfl) (by kernel_rfl) (fun _ _ _ h => h) (by rfl) ?_ hHeld ?_
            · intro w1 hSw; go_simp
            (try simp only [Act.put, List.setIfInBounds_toArray, List.set_cons_zero, List.set_cons_succ])
            refine takeQ (i := 4) (k := 19) (v := .bool false) rfl (by rfl) (by kernel_rfl) (by kernel_rfl) (by kernel_rfl) (fun _ _ _ h => h) (by rfl) ?_ hHeld ?_
            · intro w1 hSw; go_simp
            (try simp only [Act.put, List.setIfInBounds_toArray, List.set_cons_zero, List.set_cons_succ])
            cases k with
            | zero =>
              replace HBAD : Hid (bad = !(true && true && d && e && (o || (!bp && es)))) := Lib.hid (by rw [HBAD.out, HLT0.out rfl])
              refine takeQ (i := 5) (k := 20) (v := .int .i64 0) rfl (by rfl) (by kernel_rfl) (by kernel_rfl) (by kernel_rfl) (fun _ _ _ h => h) (by rfl) ?_ hHeld ?_
              · intro w1 hSw; go_simp
              (try simp only [Act.put, List.setIfInBounds_toArray, List.set_cons_zero, List.set_cons_succ])
              refine takeQ (i := 6) (k := 21) (v := .bool false) rfl (by rfl) (by kernel_rfl) (by kernel_rfl) (by kernel_rfl) (fun _ _ _ h => h) (by rfl) ?_ hHeld ?_
              · intro w1 hSw; go_simp
              (try simp only [Act.put, List.setIfInBounds_toArray, List.set_cons_zero, List.set_cons_succ])
              refine takeQ (i := 7) (k := 22) (v := .bool false) rfl (by rfl) (by kernel_rfl) (by kernel_rfl) (by kernel_rfl) (fun _ _ _ h => h) (by rfl) ?_ hHeld ?_
              · intro w1 hSw; go_simp
              (try simp only [Act.put, List.setIfInBounds_toArray, List.set_cons_zero, List.set_cons_succ])
              refine skipQ (i := 8) (k := 23) rfl (by rfl) (by kernel_rfl) (by kernel_rfl) (by kernel_rfl) (fun _ _ _ h => h) (by rfl) hHeld ?_
              (try simp only [Act.put, List.setIfInBounds_toArray, List.set_cons_zero, List.set_cons_succ])
              refine skipQ (i := 9) (k := 24) rfl (by rfl) (by kernel_rfl) (by kernel_rfl) (by kernel_rfl) (fun _ _ _ h => h) (by rfl) hHeld ?_
              (try simp only [Act.put, List.setIfInBounds_toArray, List.set_cons_zero, List.set_cons_succ])
              refine skipQ (i := 10) (k := 25) rfl (by rfl) (by kernel_rfl) (by kernel_rfl) (by kernel_rfl) (fun _ _ _ h => h) (by rfl) hHeld ?_
              (try simp only [Act.put, List.setIfInBounds_toArray, List.set_cons_zero, List.set_cons_succ])
              refine skipQ (i := 11) (k := 26) rfl (by rfl) (by kernel_rfl) (by kernel_rfl) (by kernel_rfl) (fun _ _ _ h => h) (by rfl) hHeld ?_
              (try simp only [Act.put, List.setIfInBounds_toArray, List.set_cons_zero, List.set_cons_succ])
              refine skipQ (i := 12) (k := 27) rfl (by rfl) (by kernel_rfl) (by kernel_rfl) (by kernel_rfl) (fun _ _ _ h => h) (by rfl) hHeld ?_
              (try simp only [Act.put, List.setIfInBounds_toArray, List.set_cons_zero, List.set_cons_succ])
              refine skipQ (i := 13) (k := 28) rfl (by rfl) (by kernel_rfl) (by kernel_rfl) (by kernel_rfl) (fun _ _ _ h => h) (by rfl) hHeld ?_
              (try simp only [Act.put, List.setIfInBounds_toArray, List.set_cons_zero, List.set_cons_succ])
              refine skipQ (i := 14) (k := 29) rfl (by rfl) (by kernel_rfl) (by kernel_rfl) (by kernel_rfl) (fun _ _ _ h => h) (by rfl) hHeld ?_
              (try simp only [Act.put, List.setIfInBounds_toArray, List.set_cons_zero, List.set_cons_succ])
              refine skipQ (i := 15) (k := 30) rfl (by rfl) (by kernel_rfl) (by kernel_rfl) (by kernel_rfl) (fun _ _ _ h => h) (by rfl) hHeld ?_
              (try simp only [Act.put, List.setIfInBounds_toArray, List.set_cons_zero, List.set_cons_succ])
              refine skipQ (i := 16) (k := 31) rfl (by rfl) (by kernel_rfl) (by kernel_rfl) (by kernel_rfl) (fun _ _ _ h => h) (by rfl) hHeld ?_
              (try simp only [Act.put, List.setIfInBounds_toArray, List.set_cons_zero, List.set_cons_succ])
              refine takeQ (i := 17) (k := 32) (v := .bool false) rfl (by rfl) (by kernel_rfl) (by kernel_rfl) (by kernel_rfl) (fun _ _ _ h => h) (by rfl) ?_ hHeld ?_
              · intro w1 hSw; go_simp
              (try simp only [Act.put, List.setIfInBounds_toArray, List.set_cons_zero, List.set_cons_succ])
              refine takeQ (i := 18) (k := 33) (v := .bool false) rfl (by rfl) (by kernel_rfl) (by kernel_rfl) (by kernel_rfl) (fun _ _ _ h => h) (by rfl) ?_ hHeld ?_
              · intro w1 hSw; go_simp
              (try simp only [Act.put, List.setIfInBounds_toArray, List.set_cons_zero, List.set_cons_succ])
              refine takeQ (i := 19) (k := 34) (v := .bool false) rfl (by rfl) (by kernel_rfl) (by kernel_rfl) (by kernel_rfl) (fun _ _ _ h => h) (by rfl) ?_ hHeld ?_
              · intro w1 hSw; go_simp
              (try simp only [Act.put, List.setIfInBounds_toArray, List.set_cons_zero, List.set_cons_succ])
              refine takeQ (i := 20) (k := 35) (v := .pointer (some ⟨bx, 2, none⟩)) rfl (by rfl) (by kernel_rfl) (by kernel_rfl) (by kernel_rfl) (fun _ _ _ h => h) (by rfl) ?_ hHeld ?_
              · intro w1 hSw; go_simp
              (try simp only [Act.put, List.setIfInBounds_toArray, List.set_cons_zero, List.set_cons_succ])
              refine takeQ (i := 21) (k := 36) (v := .int .i64 p) rfl (by rfl) (by kernel_rfl) (by kernel_rfl) (by kernel_rfl) (fun _ _ _ h => h) (by rfl) ?_ hHeld ?_
              · intro w1 hSw; (obtain ⟨m0, m1, m2, m3⟩ := arrS_cells hSw.1); go_simp
              (try simp only [Act.put, List.setIfInBounds_toArray, List.set_cons_zero, List.set_cons_succ])
              refine wpAnyH_ready (rs := [22]) (by kernel_rfl) (by simp) ?_
              refine AllReadyH.cons rfl (fun K hK => ?_) AllReadyH.nil
              rw [if_pos (by rfl)]
              go_simp
              go_fit (jD _)
              rintro e0 wz ⟨rfl, hwz⟩
              subst hwz
              refine hK.out _ _ hHeld (fun hHeld => ?_)
              clear hK K
              (try simp only [Act.put, List.setIfInBounds_toArray, List.set_cons_zero, List.set_cons_succ])
              cases d
              · skip
                refine takeQ (i := 23) (k := 38) (v := .bool true) rfl (by rfl) (by kernel_rfl) (by kernel_rfl) (by kernel_rfl) (fun _ _ _ h => h) (by rfl) ?_ hHeld ?_
                · intro w1 hSw; go_simp
                (try simp only [Act.put, List.setIfInBounds_toArray, List.set_cons_zero, List.set_cons_succ])
                refine takeQ (i := 24) (k := 39) (v := .bool true) rfl (by rfl) (by kernel_rfl) (by kernel_rfl) (by kernel_rfl) (fun _ _ _ h => h) (by rfl) ?_ hHeld ?_
                · intro w1 hSw; go_simp
                (try simp only [Act.put, List.setIfInBounds_toArray, List.set_cons_zero, List.set_cons_succ])
                refine takeQ (i := 25) (k := 40) (v := .bool true) rfl (by rfl) (by kernel_rfl) (by kernel_rfl) (by kernel_rfl) (fun _ _ _ h => h) (by rfl) ?_ hHeld ?_
                · intro w1 hSw; go_simp
                (try simp only [Act.put, List.setIfInBounds_toArray, List.set_cons_zero, List.set_cons_succ])
                refine skipQ (i := 26) (k := 41) rfl (by rfl) (by kernel_rfl) (by kernel_rfl) (by kernel_rfl) (fun _ _ _ h => h) (by rfl) hHeld ?_
                (try simp only [Act.put, List.setIfInBounds_toArray, List.set_cons_zero, List.set_cons_succ])
                refine skipQ (i := 27) (k := 42) rfl (by rfl) (by kernel_rfl) (by kernel_rfl) (by kernel_rfl) (fun _ _ _ h => h) (by rfl) hHeld ?_
                (try simp only [Act.put, List.setIfInBounds_toArray, List.set_cons_zero, List.set_cons_succ])
                refine skipQ (i := 28) (k := 43) rfl (by rfl) (by kernel_rfl) (by kernel_rfl) (by kernel_rfl) (fun _ _ _ h => h) (by rfl) hHeld ?_
                (try simp only [Act.put, List.setIfInBounds_toArray, List.set_cons_zero, List.set_cons_succ])
                refine skipQ (i := 29) (k := 44) rfl (by rfl) (by kernel_rfl) (by kernel_rfl) (by kernel_rfl) (fun _ _ _ h => h) (by rfl) hHeld ?_
                (try simp only [Act.put, List.setIfInBounds_toArray, List.set_cons_zero, List.set_cons_succ])
                refine takeQ (i := 30) (k := 45) (v := .bool true) rfl (by rfl) (by kernel_rfl) (by kernel_rfl) (by kernel_rfl) (fun _ _ _ h => h) (by rfl) ?_ hHeld ?_
                · intro w1 hSw; go_simp
                (try simp only [Act.put, List.setIfInBounds_toArray, List.set_cons_zero, List.set_cons_succ])
                refine takeQ (i := 31) (k := 46) (v := .bool true) rfl (by rfl) (by kernel_rfl) (by kernel_rfl) (by kernel_rfl) (fun _ _ _ h => h) (by rfl) ?_ hHeld ?_
                · intro w1 hSw; go_simp
                (try simp only [Act.put, List.setIfInBounds_toArray, List.set_cons_zero, List.set_cons_succ])
                refine skipQ (i := 32) (k := 47) rfl (by rfl) (by kernel_rfl) (by kernel_rfl) (by kernel_rfl) (fun _ _ _ h => h) (by rfl) hHeld ?_
                (try simp only [Act.put, List.setIfInBounds_toArray, List.set_cons_zero, List.set_cons_succ])
                refine skipQ (i := 33) (k := 48) rfl (by rfl) (by kernel_rfl) (by kernel_rfl) (by kernel_rfl) (fun _ _ _ h => h) (by rfl) hHeld ?_
                (try simp only [Act.put, List.setIfInBounds_toArray, List.set_cons_zero, List.set_cons_succ])
                refine skipQ (i := 34) (k := 49) rfl (by rfl) (by kernel_rfl) (by kernel_rfl) (by kernel_rfl) (fun _ _ _ h => h) (by rfl) hHeld ?_
                (try simp only [Act.put, List.setIfInBounds_toArray, List.set_cons_zero, List.set_cons_succ])
                refine skipQ (i := 35) (k := 50) rfl (by rfl) (by kernel_rfl) (by kernel_rfl) (by kernel_rfl) (fun _ _ _ h => h) (by rfl) hHeld ?_
                (try simp only [Act.put, List.setIfInBounds_toArray, List.set_cons_zero, List.set_cons_succ])
                refine skipQ (i := 36) (k := 51) rfl (by rfl) (by kernel_rfl) (by kernel_rfl) (by kernel_rfl) (fun _ _ _ h => h) (by rfl) hHeld ?_
                (try simp only [Act.put, List.setIfInBounds_toArray, List.set_cons_zero, List.set_cons_succ])
                refine skipQ (i := 37) (k := 52) rfl (by rfl) (by kernel_rfl) (by kernel_rfl) (by kernel_rfl) (fun _ _ _ h => h) (by rfl) hHeld ?_
                (try simp only [Act.put, List.setIfInBounds_toArray, List.set_cons_zero, List.set_cons_succ])
                refine skipQ (i := 38) (k := 53) rfl (by rfl) (by kernel_rfl) (by kernel_rfl) (by kernel_rfl) (fun _ _ _ h => h) (by rfl) hHeld ?_
                (try simp only [Act.put, List.setIfInBounds_toArray, List.set_cons_zero, List.set_cons_succ])
                refine skipQ (i := 39) (k := 54) rfl (by rfl) (by kernel_rfl) (by kernel_rfl) (by kernel_rfl) (fun _ _ _ h => h) (by rfl) hHeld ?_
                (try simp only [Act.put, List.setIfInBounds_toArray, List.set_cons_zero, List.set_cons_succ])
                refine skipQ (i := 40) (k := 55) rfl (by rfl) (by kernel_rfl) (by kernel_rfl) (by kernel_rfl) (fun _ _ _ h => h) (by rfl) hHeld ?_
                (try simp only [Act.put, List.setIfInBounds_toArray, List.set_cons_zero, List.set_cons_succ])
                refine skipQ (i := 41) (k := 56) rfl (by rfl) (by kernel_rfl) (by kernel_rfl) (by kernel_rfl) (fun _ _ _ h => h) (by rfl) hHeld ?_
                (try simp only [Act.put, List.setIfInBounds_toArray, List.set_cons_zero, List.set_cons_succ])
                refine skipQ (i := 42) (k := 57) rfl (by rfl) (by kernel_rfl) (by kernel_rfl) (by kernel_rfl) (fun _ _ _ h => h) (by rfl) hHeld ?_
                (try simp only [Act.put, List.setIfInBounds_toArray, List.set_cons_zero, List.set_cons_succ])
                refine skipQ (i := 43) (k := 58) rfl (by rfl) (by kernel_rfl) (by kernel_rfl) (by kernel_rfl) (fun _ _ _ h => h) (by rfl) hHeld ?_
                (try simp only [Act.put, List.setIfInBounds_toArray, List.set_cons_zero, List.set_cons_succ])
                refine skipQ (i := 44) (k := 59) rfl (by rfl) (by kernel_rfl) (by kernel_rfl) (by kernel_rfl) (fun _ _ _ h => h) (by rfl) hHeld ?_
                (try simp only [Act.put, List.setIfInBounds_toArray, List.set_cons_zero, List.set_cons_succ])
                refine takeQ (i := 45) (k := 60) (v := .bool true) rfl (by rfl) (by kernel_rfl) (by kernel_rfl) (by kernel_rfl) (fun _ _ _ h => h) (by rfl) ?_ hHeld ?_
                · intro w1 hSw; go_simp
                (try simp only [Act.put, List.setIfInBounds_toArray, List.set_cons_zero, List.set_cons_succ])
                refine wpAnyH_done (by kernel_rfl) ?_ _
                exact ⟨⟨congrArg Value.bool (show true = bad by rw [HBAD.out]; simp), hHeld⟩, by simp only [putAll, Act.put, List.setIfInBounds_toArray, List.set_cons_zero, List.set_cons_succ]; rfl⟩
              · skip
                refine takeQ (i := 23) (k := 38) (v := .bool false) rfl (by rfl) (by kernel_rfl) (by kernel_rfl) (by kernel_rfl) (fun _ _ _ h => h) (by rfl) ?_ hHeld ?_
                · intro w1 hSw; go_simp
                (try simp only [Act.put, List.setIfInBounds_toArray, List.set_cons_zero, List.set_cons_succ])
                refine takeQ (i := 24) (k := 39) (v := .bool false) rfl (by rfl) (by kernel_rfl) (by kernel_rfl) (by kernel_rfl) (fun _ _ _ h => h) (by rfl) ?_ hHeld ?_
                · intro w1 hSw; go_simp
                (try simp only [Act.put, List.setIfInBounds_toArray, List.set_cons_zero, List.set_cons_succ])
                refine takeQ (i := 25) (k := 40) (v := .bool false) rfl (by rfl) (by kernel_rfl) (by kernel_rfl) (by kernel_rfl) (fun _ _ _ h => h) (by rfl) ?_ hHeld ?_
                · intro w1 hSw; go_simp
                (try simp only [Act.put, List.setIfInBounds_toArray, List.set_cons_zero, List.set_cons_succ])
                refine takeQ (i := 26) (k := 41) (v := .pointer (some ⟨bx, 3, none⟩)) rfl (by rfl) (by kernel_rfl) (by kernel_rfl) (by kernel_rfl) (fun _ _ _ h => h) (by rfl) ?_ hHeld ?_
                · intro w1 hSw; go_simp
                (try simp only [Act.put, List.setIfInBounds_toArray, List.set_cons_zero, List.set_cons_succ])
                refine takeQ (i := 27) (k := 42) (v := .string s) rfl (by rfl) (by kernel_rfl) (by kernel_rfl) (by kernel_rfl) (fun _ _ _ h => h) (by rfl) ?_ hHeld ?_
                · intro w1 hSw; (obtain ⟨m0, m1, m2, m3⟩ := arrS_cells hSw.1); go_simp
                (try simp only [Act.put, List.setIfInBounds_toArray, List.set_cons_zero, List.set_cons_succ])
                refine wpAnyH_ready (rs := [28]) (by kernel_rfl) (by simp) ?_
                refine AllReadyH.cons rfl (fun K hK => ?_) AllReadyH.nil
                rw [if_pos (by rfl)]
                go_simp
                go_fit (jE _)
                rintro e0 wz ⟨rfl, hbz⟩
                refine hK.out _ _ ⟨arrS_on hHeld.1 hbz, hHeld.2.1.on hbz, hHeld.2.2.trans (hbz.mono hHeld.2.2.size)⟩ (fun hHeld => ?_)
                clear hK K
                (try simp only [Act.put, List.setIfInBounds_toArray, List.set_cons_zero, List.set_cons_succ])
                cases e
                · skip
                  refine takeQ (i := 29) (k := 44) (v := .bool true) rfl (by rfl) (by kernel_rfl) (by kernel_rfl) (by kernel_rfl) (fun _ _ _ h => h) (by rfl) ?_ hHeld ?_
                  · intro w1 hSw; go_simp
                  (try simp only [Act.put, List.setIfInBounds_toArray, List.set_cons_zero, List.set_cons_succ])
                  refine takeQ (i := 30) (k := 45) (v := .bool true) rfl (by rfl) (by kernel_rfl) (by kernel_rfl) (by kernel_rfl) (fun _ _ _ h => h) (by rfl) ?_ hHeld ?_
                  · intro w1 hSw; go_simp
                  (try simp only [Act.put, List.setIfInBounds_toArray, List.set_cons_zero, List.set_cons_succ])
                  refine takeQ (i := 31) (k := 46) (v := .bool true) rfl (by rfl) (by kernel_rfl) (by kernel_rfl) (by kernel_rfl) (fun _ _ _ h => h) (by rfl) ?_ hHeld ?_
                  · intro w1 hSw; go_simp
                  (try simp only [Act.put, List.setIfInBounds_toArray, List.set_cons_zero, List.set_cons_succ])
                  refine skipQ (i := 32) (k := 47) rfl (by rfl) (by kernel_rfl) (by kernel_rfl) (by kernel_rfl) (fun _ _ _ h => h) (by rfl) hHeld ?_
                  (try simp only [Act.put, List.setIfInBounds_toArray, List.set_cons_zero, List.set_cons_succ])
                  refine skipQ (i := 33) (k := 48) rfl (by rfl) (by kernel_rfl) (by kernel_rfl) (by kernel_rfl) (fun _ _ _ h => h) (by rfl) hHeld ?_
                  (try simp only [Act.put, List.setIfInBounds_toArray, List.set_cons_zero, List.set_cons_succ])
                  refine skipQ (i := 34) (k := 49) rfl (by rfl) (by kernel_rfl) (by kernel_rfl) (by kernel_rfl) (fun _ _ _ h => h) (by rfl) hHeld ?_
                  (try simp only [Act.put, List.setIfInBounds_toArray, List.set_cons_zero, List.set_cons_succ])
                  refine skipQ (i := 35) (k := 50) rfl (by rfl) (by kernel_rfl) (by kernel_rfl) (by kernel_rfl) (fun _ _ _ h => h) (by rfl) hHeld ?_
                  (try simp only [Act.put, List.setIfInBounds_toArray, List.set_cons_zero, List.set_cons_succ])
                  refine skipQ (i := 36) (k := 51) rfl (by rfl) (by kernel_rfl) (by kernel_rfl) (by kernel_rfl) (fun _ _ _ h => h) (by rfl) hHeld ?_
                  (try simp only [Act.put, List.setIfInBounds_toArray, List.set_cons_zero, List.set_cons_succ])
                  refine skipQ (i := 37) (k := 52) rfl (by rfl) (by kernel_rfl) (by kernel_rfl) (by kernel_rfl) (fun _ _ _ h => h) (by rfl) hHeld ?_
                  (try simp only [Act.put, List.setIfInBounds_toArray, List.set_cons_zero, List.set_cons_succ])
                  refine skipQ (i := 38) (k := 53) rfl (by rfl) (by kernel_rfl) (by kernel_rfl) (by kernel_rfl) (fun _ _ _ h => h) (by rfl) hHeld ?_
                  (try simp only [Act.put, List.setIfInBounds_toArray, List.set_cons_zero, List.set_cons_succ])
                  refine skipQ (i := 39) (k := 54) rfl (by rfl) (by kernel_rfl) (by kernel_rfl) (by kernel_rfl) (fun _ _ _ h => h) (by rfl) hHeld ?_
                  (try simp only [Act.put, List.setIfInBounds_toArray, List.set_cons_zero, List.set_cons_succ])
                  refine skipQ (i := 40) (k := 55) rfl (by rfl) (by kernel_rfl) (by kernel_rfl) (by kernel_rfl) (fun _ _ _ h => h) (by rfl) hHeld ?_
                  (try simp only [Act.put, List.setIfInBounds_toArray, List.set_cons_zero, List.set_cons_succ])
                  refine skipQ (i := 41) (k := 56) rfl (by rfl) (by kernel_rfl) (by kernel_rfl) (by kernel_rfl) (fun _ _ _ h => h) (by rfl) hHeld ?_
                  (try simp only [Act.put, List.setIfInBounds_toArray, List.set_cons_zero, List.set_cons_succ])
                  refine skipQ (i := 42) (k := 57) rfl (by rfl) (by kernel_rfl) (by kernel_rfl) (by kernel_rfl) (fun _ _ _ h => h) (by rfl) hHeld ?_
                  (try simp only [Act.put, List.setIfInBounds_toArray, List.set_cons_zero, List.set_cons_succ])
                  refine skipQ (i := 43) (k := 58) rfl (by rfl) (by kernel_rfl) (by kernel_rfl) (by kernel_rfl) (fun _ _ _ h => h) (by rfl) hHeld ?_
                  (try simp only [Act.put, List.setIfInBounds_toArray, List.set_cons_zero, List.set_cons_succ])
                  refine skipQ (i := 44) (k := 59) rfl (by rfl) (by kernel_rfl) (by kernel_rfl) (by kernel_rfl) (fun _ _ _ h => h) (by rfl) hHeld ?_
                  (try simp only [Act.put, List.setIfInBounds_toArray, List.set_cons_zero, List.set_cons_succ])
                  refine takeQ (i := 45) (k := 60) (v := .bool true) rfl (by rfl) (by kernel_rfl) (by kernel_rfl) (by kernel_rfl) (fun _ _ _ h => h) (by rfl) ?_ hHeld ?_
                  · intro w1 hSw; go_simp
                  (try simp only [Act.put, List.setIfInBounds_toArray, List.set_cons_zero, List.set_cons_succ])
                  refine wpAnyH_done (by kernel_rfl) ?_ _
                  exact ⟨⟨congrArg Value.bool (show true = bad by rw [HBAD.out]; simp), hHeld⟩, by simp only [putAll, Act.put, List.setIfInBounds_toArray, List.set_cons_zero, List.set_cons_succ]; rfl⟩
                · skip
                  refine takeQ (i := 29) (k := 44) (v := .bool false) rfl (by rfl) (by kernel_rfl) (by kernel_rfl) (by kernel_rfl) (fun _ _ _ h => h) (by rfl) ?_ hHeld ?_
                  · intro w1 hSw; go_simp
                  (try simp only [Act.put, List.setIfInBounds_toArray, List.set_cons_zero, List.set_cons_succ])
                  refine takeQ (i := 30) (k := 45) (v := .bool false) rfl (by rfl) (by kernel_rfl) (by kernel_rfl) (by kernel_rfl) (fun _ _ _ h => h) (by rfl) ?_ hHeld ?_
                  · intro w1 hSw; go_simp
                  (try simp only [Act.put, List.setIfInBounds_toArray, List.set_cons_zero, List.set_cons_succ])
                  refine takeQ (i := 31) (k := 46) (v := .bool false) rfl (by rfl) (by kernel_rfl) (by kernel_rfl) (by kernel_rfl) (fun _ _ _ h => h) (by rfl) ?_ hHeld ?_
                  · intro w1 hSw; go_simp
                  (try simp only [Act.put, List.setIfInBounds_toArray, List.set_cons_zero, List.set_cons_succ])
                  refine takeQ (i := 32) (k := 47) (v := .pointer (some ⟨bx, 1, none⟩)) rfl (by rfl) (by kernel_rfl) (by kernel_rfl) (by kernel_rfl) (fun _ _ _ h => h) (by rfl) ?_ hHeld ?_
                  · intro w1 hSw; go_simp
                  (try simp only [Act.put, List.setIfInBounds_toArray, List.set_cons_zero, List.set_cons_succ])
                  refine takeQ (i := 33) (k := 48) (v := .bool o) rfl (by rfl) (by kernel_rfl) (by kernel_rfl) (by kernel_rfl) (fun _ _ _ h => h) (by rfl) ?_ hHeld ?_
                  · intro w1 hSw; (obtain ⟨m0, m1, m2, m3⟩ := arrS_cells hSw.1); go_simp
                  (try simp only [Act.put, List.setIfInBounds_toArray, List.set_cons_zero, List.set_cons_succ])
                  cases o
                  · skip
                    refine takeQ (i := 34) (k := 49) (v := .bool true) rfl (by rfl) (by kernel_rfl) (by kernel_rfl) (by kernel_rfl) (fun _ _ _ h => h) (by rfl) ?_ hHeld ?_
                    · intro w1 hSw; go_simp
                    (try simp only [Act.put, List.setIfInBounds_toArray, List.set_cons_zero, List.set_cons_succ])
                    refine takeQ (i := 35) (k := 50) (v := .bool true) rfl (by rfl) (by kernel_rfl) (by kernel_rfl) (by kernel_rfl) (fun _ _ _ h => h) (by rfl) ?_ hHeld ?_
                    · intro w1 hSw; go_simp
                    (try simp only [Act.put, List.setIfInBounds_toArray, List.set_cons_zero, List.set_cons_succ])
                    refine takeQ (i := 36) (k := 51) (v := .pointer (some ⟨bx, 2, none⟩)) rfl (by rfl) (by kernel_rfl) (by kernel_rfl) (by kernel_rfl) (fun _ _ _ h => h) (by rfl) ?_ hHeld ?_
                    · intro w1 hSw; go_simp
                    (try simp only [Act.put, List.setIfInBounds_toArray, List.set_cons_zero, List.set_cons_succ])
                    refine takeQ (i := 37) (k := 52) (v := .int .i64 p) rfl (by rfl) (by kernel_rfl) (by kernel_rfl) (by kernel_rfl) (fun _ _ _ h => h) (by rfl) ?_ hHeld ?_
                    · intro w1 hSw; (obtain ⟨m0, m1, m2, m3⟩ := arrS_cells hSw.1); go_simp
                    (try simp only [Act.put, List.setIfInBounds_toArray, List.set_cons_zero, List.set_cons_succ])
                    refine takeQ (i := 38) (k := 53) (v := .bool bp) rfl (by rfl) (by kernel_rfl) (by kernel_rfl) (by kernel_rfl) (fun _ _ _ h => h) (by rfl) ?_ hHeld ?_
                    · intro w1 hSw; go_simp
                    (try simp only [Act.put, List.setIfInBounds_toArray, List.set_cons_zero, List.set_cons_succ])
                    cases bp
                    · skip
                      refine takeQ (i := 39) (k := 54) (v := .bool false) rfl (by rfl) (by kernel_rfl) (by kernel_rfl) (by kernel_rfl) (fun _ _ _ h => h) (by rfl) ?_ hHeld ?_
                      · intro w1 hSw; go_simp
                      (try simp only [Act.put, List.setIfInBounds_toArray, List.set_cons_zero, List.set_cons_succ])
                      refine takeQ (i := 40) (k := 55) (v := .pointer (some ⟨bx, 3, none⟩)) rfl (by rfl) (by kernel_rfl) (by kernel_rfl) (by kernel_rfl) (fun _ _ _ h => h) (by rfl) ?_ hHeld ?_
                      · intro w1 hSw; go_simp
                      (try simp only [Act.put, List.setIfInBounds_toArray, List.set_cons_zero, List.set_cons_succ])
                      refine takeQ (i := 41) (k := 56) (v := .string s) rfl (by rfl) (by kernel_rfl) (by kernel_rfl) (by kernel_rfl) (fun _ _ _ h => h) (by rfl) ?_ hHeld ?_
                      · intro w1 hSw; (obtain ⟨m0, m1, m2, m3⟩ := arrS_cells hSw.1); go_simp
                      (try simp only [Act.put, List.setIfInBounds_toArray, List.set_cons_zero, List.set_cons_succ])
                      refine takeQ (i := 42) (k := 57) (v := .bool (!es)) rfl (by rfl) (by kernel_rfl) (by kernel_rfl) (by kernel_rfl) (fun _ _ _ h => h) (by rfl) ?_ hHeld ?_
                      · intro w1 hSw; go_simp
                      (try simp only [Act.put, List.setIfInBounds_toArray, List.set_cons_zero, List.set_cons_succ])
                      cases es
                      · skip
                        refine takeQ (i := 43) (k := 58) (v := .bool true) rfl (by rfl) (by kernel_rfl) (by kernel_rfl) (by kernel_rfl) (fun _ _ _ h => h) (by rfl) ?_ hHeld ?_
                        · intro w1 hSw; go_simp
                        (try simp only [Act.put, List.setIfInBounds_toArray, List.set_cons_zero, List.set_cons_succ])
                        refine takeQ (i := 44) (k := 59) (v := .bool true) rfl (by rfl) (by kernel_rfl) (by kernel_rfl) (by kernel_rfl) (fun _ _ _ h => h) (by rfl) ?_ hHeld ?_
                        · intro w1 hSw; go_simp
                        (try simp only [Act.put, List.setIfInBounds_toArray, List.set_cons_zero, List.set_cons_succ])
                        refine takeQ (i := 45) (k := 60) (v := .bool true) rfl (by rfl) (by kernel_rfl) (by kernel_rfl) (by kernel_rfl) (fun _ _ _ h => h) (by rfl) ?_ hHeld ?_
                        · intro w1 hSw; go_simp
                        (try simp only [Act.put, List.setIfInBounds_toArray, List.set_cons_zero, List.set_cons_succ])
                        refine wpAnyH_done (by kernel_rfl) ?_ _
                        exact ⟨⟨congrArg Value.bool (show true = bad by rw [HBAD.out]; simp), hHeld⟩, by simp only [putAll, Act.put, List.setIfInBounds_toArray, List.set_cons_zero, List.set_cons_succ]; rfl⟩
                      · skip
                        refine takeQ (i := 43) (k := 58) (v := .bool false) rfl (by rfl) (by kernel_rfl) (by kernel_rfl) (by kernel_rfl) (fun _ _ _ h => h) (by rfl) ?_ hHeld ?_
                        · intro w1 hSw; go_simp
                        (try simp only [Act.put, List.setIfInBounds_toArray, List.set_cons_zero, List.set_cons_succ])
                        refine takeQ (i := 44) (k := 59) (v := .bool false) rfl (by rfl) (by kernel_rfl) (by kernel_rfl) (by kernel_rfl) (fun _ _ _ h => h) (by rfl) ?_ hHeld ?_
                        · intro w1 hSw; go_simp
                        (try simp only [Act.put, List.setIfInBounds_toArray, List.set_cons_zero, List.set_cons_succ])
                        refine takeQ (i := 45) (k := 60) (v := .bool false) rfl (by rfl) (by kernel_rfl) (by kernel_rfl) (by kernel_rfl) (fun _ _ _ h => h) (by rfl) ?_ hHeld ?_
                        · intro w1 hSw; go_simp
                        (try simp only [Act.put, List.setIfInBounds_toArray, List.set_cons_zero, List.set_cons_succ])
                        refine wpAnyH_done (by kernel_rfl) ?_ _
                        exact ⟨⟨congrArg Value.bool (show false = bad by rw [HBAD.out]; simp), hHeld⟩, by simp only [putAll, Act.put, List.setIfInBounds_toArray, List.set_cons_zero, List.set_cons_succ]; rfl⟩
                    · skip
                      refine takeQ (i := 39) (k := 54) (v := .bool true) rfl (by rfl) (by kernel_rfl) (by kernel_rfl) (by kernel_rfl) (fun _ _ _ h => h) (by rfl) ?_ hHeld ?_
                      · intro w1 hSw; go_simp
                      (try simp only [Act.put, List.setIfInBounds_toArray, List.set_cons_zero, List.set_cons_succ])
                      refine skipQ (i := 40) (k := 55) rfl (by rfl) (by kernel_rfl) (by kernel_rfl) (by kernel_rfl) (fun _ _ _ h => h) (by rfl) hHeld ?_
                      (try simp only [Act.put, List.setIfInBounds_toArray, List.set_cons_zero, List.set_cons_succ])
                      refine skipQ (i := 41) (k := 56) rfl (by rfl) (by kernel_rfl) (by kernel_rfl) (by kernel_rfl) (fun _ _ _ h => h) (by rfl) hHeld ?_
                      (try simp only [Act.put, List.setIfInBounds_toArray, List.set_cons_zero, List.set_cons_succ])
                      refine skipQ (i := 42) (k := 57) rfl (by rfl) (by kernel_rfl) (by kernel_rfl) (by kernel_rfl) (fun _ _ _ h => h) (by rfl) hHeld ?_
                      (try simp only [Act.put, List.setIfInBounds_toArray, List.set_cons_zero, List.set_cons_succ])
                      refine takeQ (i := 43) (k := 58) (v := .bool true) rfl (by rfl) (by kernel_rfl) (by kernel_rfl) (by kernel_rfl) (fun _ _ _ h => h) (by rfl) ?_ hHeld ?_
                      · intro w1 hSw; go_simp
                      (try simp only [Act.put, List.setIfInBounds_toArray, List.set_cons_zero, List.set_cons_succ])
                      refine takeQ (i := 44) (k := 59) (v := .bool true) rfl (by rfl) (by kernel_rfl) (by kernel_rfl) (by kernel_rfl) (fun _ _ _ h => h) (by rfl) ?_ hHeld ?_
                      · intro w1 hSw; go_simp
                      (try simp only [Act.put, List.setIfInBounds_toArray, List.set_cons_zero, List.set_cons_succ])
                      refine takeQ (i := 45) (k := 60) (v := .bool true) rfl (by rfl) (by kernel_rfl) (by kernel_rfl) (by kernel_rfl) (fun _ _ _ h => h) (by rfl) ?_ hHeld ?_
                      · intro w1 hSw; go_simp
                      (try simp only [Act.put, List.setIfInBounds_toArray, List.set_cons_zero, List.set_cons_succ])
                      refine wpAnyH_done (by kernel_rfl) ?_ _
                      exact ⟨⟨congrArg Value.bool (show true = bad by rw [HBAD.out]; simp), hHeld⟩, by simp only [putAll, Act.put, List.setIfInBounds_toArray, List.set_cons_zero, List.set_cons_succ]; rfl⟩
                  · skip
                    refine takeQ (i := 34) (k := 49) (v := .bool false) rfl (by rfl) (by kernel_rfl) (by kernel_rfl) (by kernel_rfl) (fun _ _ _ h => h) (by rfl) ?_ hHeld ?_
                    · intro w1 hSw; go_simp
                    (try simp only [Act.put, List.setIfInBounds_toArray, List.set_cons_zero, List.set_cons_succ])
                    refine takeQ (i := 35) (k := 50) (v := .bool false) rfl (by rfl) (by kernel_rfl) (by kernel_rfl) (by kernel_rfl) (fun _ _ _ h => h) (by rfl) ?_ hHeld ?_
                    · intro w1 hSw; go_simp
                    (try simp only [Act.put, List.setIfInBounds_toArray, List.set_cons_zero, List.set_cons_succ])
                    refine skipQ (i := 36) (k := 51) rfl (by rfl) (by kernel_rfl) (by kernel_rfl) (by kernel_rfl) (fun _ _ _ h => h) (by rfl) hHeld ?_
                    (try simp only [Act.put, List.setIfInBounds_toArray, List.set_cons_zero, List.set_cons_succ])
                    refine skipQ (i := 37) (k := 52) rfl (by rfl) (by kernel_rfl) (by kernel_rfl) (by kernel_rfl) (fun _ _ _ h => h) (by rfl) hHeld ?_
                    (try simp only [Act.put, List.setIfInBounds_toArray, List.set_cons_zero, List.set_cons_succ])
                    refine skipQ (i := 38) (k := 53) rfl (by rfl) (by kernel_rfl) (by kernel_rfl) (by kernel_rfl) (fun _ _ _ h => h) (by rfl) hHeld ?_
                    (try simp only [Act.put, List.setIfInBounds_toArray, List.set_cons_zero, List.set_cons_succ])
                    refine skipQ (i := 39) (k := 54) rfl (by rfl) (by kernel_rfl) (by kernel_rfl) (by kernel_rfl) (fun _ _ _ h => h) (by rfl) hHeld ?_
                    (try simp only [Act.put, List.setIfInBounds_toArray, List.set_cons_zero, List.set_cons_succ])
                    refine skipQ (i := 40) (k := 55) rfl (by rfl) (by kernel_rfl) (by kernel_rfl) (by kernel_rfl) (fun _ _ _ h => h) (by rfl) hHeld ?_
                    (try simp only [Act.put, List.setIfInBounds_toArray, List.set_cons_zero, List.set_cons_succ])
                    refine skipQ (i := 41) (k := 56) rfl (by rfl) (by kernel_rfl) (by kernel_rfl) (by kernel_rfl) (fun _ _ _ h => h) (by rfl) hHeld ?_
                    (try simp only [Act.put, List.setIfInBounds_toArray, List.set_cons_zero, List.set_cons_succ])
                    refine skipQ (i := 42) (k := 57) rfl (by rfl) (by kernel_rfl) (by kernel_rfl) (by kernel_rfl) (fun _ _ _ h => h) (by rfl) hHeld ?_
                    (try simp only [Act.put, List.setIfInBounds_toArray, List.set_cons_zero, List.set_cons_succ])
                    refine skipQ (i := 43) (k := 58) rfl (by rfl) (by kernel_rfl) (by kernel_rfl) (by kernel_rfl) (fun _ _ _ h => h) (by rfl) hHeld ?_
                    (try simp only [Act.put, List.setIfInBounds_toArray, List.set_cons_zero, List.set_cons_succ])
                    refine takeQ (i := 44) (k := 59) (v := .bool false) rfl (by rfl) (by kernel_rfl) (by kernel_rfl) (by kernel_rfl) (fun _ _ _ h => h) (by rfl) ?_ hHeld ?_
                    · intro w1 hSw; go_simp
                    (try simp only [Act.put, List.setIfInBounds_toArray, List.set_cons_zero, List.set_cons_succ])
                    refine takeQ (i := 45) (k := 60) (v := .bool false) rfl (by rfl) (by kernel_rfl) (by kernel_rfl) (by kernel_rfl) (fun _ _ _ h => h) (by rfl) ?_ hHeld ?_
                    · intro w1 hSw; go_simp
                    (try simp only [Act.put, List.setIfInBounds_toArray, List.set_cons_zero, List.set_cons_succ])
                    refine wpAnyH_done (by kernel_rfl) ?_ _
                    exact ⟨⟨congrArg Value.bool (show false = bad by rw [HBAD.out]; simp), hHeld⟩, by simp only [putAll, Act.put, List.setIfInBounds_toArray, List.set_cons_zero, List.set_cons_succ]; rfl⟩
            | succ m =>
              have hm1 : m < xs.length := by rw [HN.out]; omega
              obtain ⟨y, hy⟩ : ∃ y, xs[m] = y := ⟨_, rfl⟩
              replace HBAD : Hid (bad = !(true && Op.bytesLess y.r.toList r.toList && d && e && (o || (!bp && es)))) := Lib.hid (by rw [HBAD.out, HLT1.out m rfl hm1, hy])
              have HY := Lib.hid hy
              obtain ⟨lt, hlt2⟩ : ∃ b, Op.bytesLess y.r.toList r.toList = b := ⟨_, rfl⟩
              rw [hlt2] at HBAD
              have hwr : IntKind.i64.wrap ((m : Int) + 1 - 1) = (m : Int) := by rw [IntWalk.i64_in _ (by omega)]; omega
              have hwr2 : IntKind.i64.wrap (m : Int) = (m : Int) := IntWalk.i64_in _ (by omega)
              have q1 : (0 : Int) ≤ (m : Int) := by omega
              have q2 : (m : Int) < (n : Int) := by omega
              refine takeQ (i := 5) (k := 20) (v := .int .i64 ((m : Int) + 1)) rfl (by rfl) (by kernel_rfl) (by kernel_rfl) (by kernel_rfl) (fun _ _ _ h => h) (by rfl) ?_ hHeld ?_
              · intro w1 hSw; go_simp
              (try simp only [Act.put, List.setIfInBounds_toArray, List.set_cons_zero, List.set_cons_succ])
              refine takeQ (i := 6) (k := 21) (v := .bool true) rfl (by rfl) (by kernel_rfl) (by kernel_rfl) (by kernel_rfl) (fun _ _ _ h => h) (by rfl) ?_ hHeld ?_
              · intro w1 hSw; go_simp
              (try simp only [Act.put, List.setIfInBounds_toArray, List.set_cons_zero, List.set_cons_succ])
              refine takeQ (i := 7) (k := 22) (v := .bool true) rfl (by rfl) (by kernel_rfl) (by kernel_rfl) (by kernel_rfl) (fun _ _ _ h => h) (by rfl) ?_ hHeld ?_
              · intro w1 hSw; go_simp
              (try simp only [Act.put, List.setIfInBounds_toArray, List.set_cons_zero, List.set_cons_succ])
              refine takeQ (i := 8) (k := 23) (v := .slice (some ⟨g, 0, none⟩) n c) rfl (by rfl) (by kernel_rfl) (by kernel_rfl) (by kernel_rfl) (fun _ _ _ h => h) (by rfl) ?_ hHeld ?_
              · intro w1 hSw; go_simp
              (try simp only [Act.put, List.setIfInBounds_toArray, List.set_cons_zero, List.set_cons_succ])
              refine takeQ (i := 9) (k := 24) (v := .int .i64 ((m : Int) + 1)) rfl (by rfl) (by kernel_rfl) (by kernel_rfl) (by kernel_rfl) (fun _ _ _ h => h) (by rfl) ?_ hHeld ?_
              · intro w1 hSw; go_simp
              (try simp only [Act.put, List.setIfInBounds_toArray, List.set_cons_zero, List.set_cons_succ])
              refine takeQ (i := 10) (k := 25) (v := .int .i64 (m : Int)) rfl (by rfl) (by kernel_rfl) (by kernel_rfl) (by kernel_rfl) (fun _ _ _ h => h) (by rfl) ?_ hHeld ?_
              · intro w1 hSw; go_simp; (try (first | exact hwr | exact hwr2 | omega))
              (try simp only [Act.put, List.setIfInBounds_toArray, List.set_cons_zero, List.set_cons_succ])
              refine takeQ (i := 11) (k := 26) (v := .pointer (some ⟨g, m * 4, none⟩)) rfl (by rfl) (by kernel_rfl) (by kernel_rfl) (by kernel_rfl) (fun _ _ _ h => h) (by rfl) ?_ hHeld ?_
              · intro w1 hSw; go_simp
              (try simp only [Act.put, List.setIfInBounds_toArray, List.set_cons_zero, List.set_cons_succ])
              refine takeQ (i := 12) (k := 27) (v := .pointer (some ⟨g, m * 4, none⟩)) rfl (by rfl) (by kernel_rfl) (by kernel_rfl) (by kernel_rfl) (fun _ _ _ h => h) (by rfl) ?_ hHeld ?_
              · intro w1 hSw; go_simp
              (try simp only [Act.put, List.setIfInBounds_toArray, List.set_cons_zero, List.set_cons_succ])
              refine takeQ (i := 13) (k := 28) (v := .string y.r) rfl (by rfl) (by kernel_rfl) (by kernel_rfl) (by kernel_rfl) (fun _ _ _ h => h) (by rfl) ?_ hHeld ?_
              · intro w1 hSw; (obtain ⟨g2, hgg, _, y0, y1, y2, y3⟩ := row_se4 hSw.2.1 hm1); (injection hgg with hgg); (injection hgg with hgg); subst hgg; rw [HY.out] at y0; go_simp
              (try simp only [Act.put, List.setIfInBounds_toArray, List.set_cons_zero, List.set_cons_succ])
              refine takeQ (i := 14) (k := 29) (v := .pointer (some ⟨bx, 0, none⟩)) rfl (by rfl) (by kernel_rfl) (by kernel_rfl) (by kernel_rfl) (fun _ _ _ h => h) (by rfl) ?_ hHeld ?_
              · intro w1 hSw; go_simp
              (try simp only [Act.put, List.setIfInBounds_toArray, List.set_cons_zero, List.set_cons_succ])
              refine takeQ (i := 15) (k := 30) (v := .string r) rfl (by rfl) (by kernel_rfl) (by kernel_rfl) (by kernel_rfl) (fun _ _ _ h => h) (by rfl) ?_ hHeld ?_
              · intro w1 hSw; (obtain ⟨m0, m1, m2, m3⟩ := arrS_cells hSw.1); go_simp
              (try simp only [Act.put, List.setIfInBounds_toArray, List.set_cons_zero, List.set_cons_succ])
              refine takeQ (i := 16) (k := 31) (v := .bool (!lt)) rfl (by rfl) (by kernel_rfl) (by kernel_rfl) (by kernel_rfl) (fun _ _ _ h => h) (by rfl) ?_ hHeld ?_
              · intro w1 hSw; go_simp
              (try simp only [Act.put, List.setIfInBounds_toArray, List.set_cons_zero, List.set_cons_succ])
              cases lt
              · skip
                refine takeQ (i := 17) (k := 32) (v := .bool true) rfl (by rfl) (by kernel_rfl) (by kernel_rfl) (by kernel_rfl) (fun _ _ _ h => h) (by rfl) ?_ hHeld ?_
                · intro w1 hSw; go_simp
                (try simp only [Act.put, List.setIfInBounds_toArray, List.set_cons_zero, List.set_cons_succ])
                refine takeQ (i := 18) (k := 33) (v := .bool true) rfl (by rfl) (by kernel_rfl) (by kernel_rfl) (by kernel_rfl) (fun _ _ _ h => h) (by rfl) ?_ hHeld ?_
                · intro w1 hSw; go_simp
                (try simp only [Act.put, List.setIfInBounds_toArray, List.set_cons_zero, List.set_cons_succ])
                refine takeQ (i := 19) (k := 34) (v := .bool true) rfl (by rfl) (by kernel_rfl) (by kernel_rfl) (by kernel_rfl) (fun _ _ _ h => h) (by rfl) ?_ hHeld ?_
                · intro w1 hSw; go_simp
                (try simp only [Act.put, List.setIfInBounds_toArray, List.set_cons_zero, List.set_cons_succ])
                refine skipQ (i := 20) (k := 35) rfl (by rfl) (by kernel_rfl) (by kernel_rfl) (by kernel_rfl) (fun _ _ _ h => h) (by rfl) hHeld ?_
                (try simp only [Act.put, List.setIfInBounds_toArray, List.set_cons_zero, List.set_cons_succ])
                refine skipQ (i := 21) (k := 36) rfl (by rfl) (by kernel_rfl) (by kernel_rfl) (by kernel_rfl) (fun _ _ _ h => h) (by rfl) hHeld ?_
                (try simp only [Act.put, List.setIfInBounds_toArray, List.set_cons_zero, List.set_cons_succ])
                refine skipQ (i := 22) (k := 37) rfl (by rfl) (by kernel_rfl) (by kernel_rfl) (by kernel_rfl) (fun _ _ _ h => h) (by rfl) hHeld ?_
                (try simp only [Act.put, List.setIfInBounds_toArray, List.set_cons_zero, List.set_cons_succ])
                refine skipQ (i := 23) (k := 38) rfl (by rfl) (by kernel_rfl) (by kernel_rfl) (by kernel_rfl) (fun _ _ _ h => h) (by rfl) hHeld ?_
                (try simp only [Act.put, List.setIfInBounds_toArray, List.set_cons_zero, List.set_cons_succ])
                refine takeQ (i := 24) (k := 39) (v := .bool true) rfl (by rfl) (by kernel_rfl) (by kernel_rfl) (by kernel_rfl) (fun _ _ _ h => h) (by rfl) ?_ hHeld ?_
                · intro w1 hSw; go_simp
                (try simp only [Act.put, List.setIfInBounds_toArray, List.set_cons_zero, List.set_cons_succ])
                refine takeQ (i := 25) (k := 40) (v := .bool true) rfl (by rfl) (by kernel_rfl) (by kernel_rfl) (by kernel_rfl) (fun _ _ _ h => h) (by rfl) ?_ hHeld ?_
                · intro w1 hSw; go_simp
                (try simp only [Act.put, List.setIfInBounds_toArray, List.set_cons_zero, List.set_cons_succ])
                refine skipQ (i := 26) (k := 41) rfl (by rfl) (by kernel_rfl) (by kernel_rfl) (by kernel_rfl) (fun _ _ _ h => h) (by rfl) hHeld ?_
                (try simp only [Act.put, List.setIfInBounds_toArray, List.set_cons_zero, List.set_cons_succ])
                refine skipQ (i := 27) (k := 42) rfl (by rfl) (by kernel_rfl) (by kernel_rfl) (by kernel_rfl) (fun _ _ _ h => h) (by rfl) hHeld ?_
                (try simp only [Act.put, List.setIfInBounds_toArray, List.set_cons_zero, List.set_cons_succ])
                refine skipQ (i := 28) (k := 43) rfl (by rfl) (by kernel_rfl) (by kernel_rfl) (by kernel_rfl) (fun _ _ _ h => h) (by rfl) hHeld ?_
                (try simp only [Act.put, List.setIfInBounds_toArray, List.set_cons_zero, List.set_cons_succ])
                refine skipQ (i := 29) (k := 44) rfl (by rfl) (by kernel_rfl) (by kernel_rfl) (by kernel_rfl) (fun _ _ _ h => h) (by rfl) hHeld ?_
                (try simp only [Act.put, List.setIfInBounds_toArray, List.set_cons_zero, List.set_cons_succ])
                refine takeQ (i := 30) (k := 45) (v := .bool true) rfl (by rfl) (by kernel_rfl) (by kernel_rfl) (by kernel_rfl) (fun _ _ _ h => h) (by rfl) ?_ hHeld ?_
                · intro w1 hSw; go_simp
                (try simp only [Act.put, List.setIfInBounds_toArray, List.set_cons_zero, List.set_cons_succ])
                refine takeQ (i := 31) (k := 46) (v := .bool true) rfl (by rfl) (by kernel_rfl) (by kernel_rfl) (by kernel_rfl) (fun _ _ _ h => h) (by rfl) ?_ hHeld ?_
                · intro w1 hSw; go_simp
                (try simp only [Act.put, List.setIfInBounds_toArray, List.set_cons_zero, List.set_cons_succ])
                refine skipQ (i := 32) (k := 47) rfl (by rfl) (by kernel_rfl) (by kernel_rfl) (by kernel_rfl) (fun _ _ _ h => h) (by rfl) hHeld ?_
                (try simp only [Act.put, List.setIfInBounds_toArray, List.set_cons_zero, List.set_cons_succ])
                refine skipQ (i := 33) (k := 48) rfl (by rfl) (by kernel_rfl) (by kernel_rfl) (by kernel_rfl) (fun _ _ _ h => h) (by rfl) hHeld ?_
                (try simp only [Act.put, List.setIfInBounds_toArray, List.set_cons_zero, List.set_cons_succ])
                refine skipQ (i := 34) (k := 49) rfl (by rfl) (by kernel_rfl) (by kernel_rfl) (by kernel_rfl) (fun _ _ _ h => h) (by rfl) hHeld ?_
                (try simp only [Act.put, List.setIfInBounds_toArray, List.set_cons_zero, List.set_cons_succ])
                refine skipQ (i := 35) (k := 50) rfl (by rfl) (by kernel_rfl) (by kernel_rfl) (by kernel_rfl) (fun _ _ _ h => h) (by rfl) hHeld ?_
                (try simp only [Act.put, List.setIfInBounds_toArray, List.set_cons_zero, List.set_cons_succ])
                refine skipQ (i := 36) (k := 51) rfl (by rfl) (by kernel_rfl) (by kernel_rfl) (by kernel_rfl) (fun _ _ _ h => h) (by rfl) hHeld ?_
                (try simp only [Act.put, List.setIfInBounds_toArray, List.set_cons_zero, List.set_cons_succ])
                refine skipQ (i := 37) (k := 52) rfl (by rfl) (by kernel_rfl) (by kernel_rfl) (by kernel_rfl) (fun _ _ _ h => h) (by rfl) hHeld ?_
                (try simp only [Act.put, List.setIfInBounds_toArray, List.set_cons_zero, List.set_cons_succ])
                refine skipQ (i := 38) (k := 53) rfl (by rfl) (by kernel_rfl) (by kernel_rfl) (by kernel_rfl) (fun _ _ _ h => h) (by rfl) hHeld ?_
                (try simp only [Act.put, List.setIfInBounds_toArray, List.set_cons_zero, List.set_cons_succ])
                refine skipQ (i := 39) (k := 54) rfl (by rfl) (by kernel_rfl) (by kernel_rfl) (by kernel_rfl) (fun _ _ _ h => h) (by rfl) hHeld ?_
                (try simp only [Act.put, List.setIfInBounds_toArray, List.set_cons_zero, List.set_cons_succ])
                refine skipQ (i := 40) (k := 55) rfl (by rfl) (by kernel_rfl) (by kernel_rfl) (by kernel_rfl) (fun _ _ _ h => h) (by rfl) hHeld ?_
                (try simp only [Act.put, List.setIfInBounds_toArray, List.set_cons_zero, List.set_cons_succ])
                refine skipQ (i := 41) (k := 56) rfl (by rfl) (by kernel_rfl) (by kernel_rfl) (by kernel_rfl) (fun _ _ _ h => h) (by rfl) hHeld ?_
                (try simp only [Act.put, List.setIfInBounds_toArray, List.set_cons_zero, List.set_cons_succ])
                refine skipQ (i := 42) (k := 57) rfl (by rfl) (by kernel_rfl) (by kernel_rfl) (by kernel_rfl) (fun _ _ _ h => h) (by rfl) hHeld ?_
                (try simp only [Act.put, List.setIfInBounds_toArray, List.set_cons_zero, List.set_cons_succ])
                refine skipQ (i := 43) (k := 58) rfl (by rfl) (by kernel_rfl) (by kernel_rfl) (by kernel_rfl) (fun _ _ _ h => h) (by rfl) hHeld ?_
                (try simp only [Act.put, List.setIfInBounds_toArray, List.set_cons_zero, List.set_cons_succ])
                refine skipQ (i := 44) (k := 59) rfl (by rfl) (by kernel_rfl) (by kernel_rfl) (by kernel_rfl) (fun _ _ _ h => h) (by rfl) hHeld ?_
                (try simp only [Act.put, List.setIfInBounds_toArray, List.set_cons_zero, List.set_cons_succ])
                refine takeQ (i := 45) (k := 60) (v := .bool true) rfl (by rfl) (by kernel_rfl) (by kernel_rfl) (by kernel_rfl) (fun _ _ _ h => h) (by rfl) ?_ hHeld ?_
                · intro w1 hSw; go_simp
                (try simp only [Act.put, List.setIfInBounds_toArray, List.set_cons_zero, List.set_cons_succ])
                refine wpAnyH_done (by kernel_rfl) ?_ _
                exact ⟨⟨congrArg Value.bool (show true = bad by rw [HBAD.out]; simp), hHeld⟩, by simp only [putAll, Act.put, List.setIfInBounds_toArray, List.set_cons_zero, List.set_cons_succ]; rfl⟩
              · skip
                refine takeQ (i := 17) (k := 32) (v := .bool false) rfl (by rfl) (by kernel_rfl) (by kernel_rfl) (by kernel_rfl) (fun _ _ _ h => h) (by rfl) ?_ hHeld ?_
                · intro w1 hSw; go_simp
                (try simp only [Act.put, List.setIfInBounds_toArray, List.set_cons_zero, List.set_cons_succ])
                refine takeQ (i := 18) (k := 33) (v := .bool false) rfl (by rfl) (by kernel_rfl) (by kernel_rfl) (by kernel_rfl) (fun _ _ _ h => h) (by rfl) ?_ hHeld ?_
                · intro w1 hSw; go_simp
                (try simp only [Act.put, List.setIfInBounds_toArray, List.set_cons_zero, List.set_cons_succ])
                refine takeQ (i := 19) (k := 34) (v := .bool false) rfl (by rfl) (by kernel_rfl) (by kernel_rfl) (by kernel_rfl) (fun _ _ _ h => h) (by rfl) ?_ hHeld ?_
                · intro w1 hSw; go_simp
                (try simp only [Act.put, List.setIfInBounds_toArray, List.set_cons_zero, List.set_cons_succ])
                refine takeQ (i := 20) (k := 35) (v := .pointer (some ⟨bx, 2, none⟩)) rfl (by rfl) (by kernel_rfl) (by kernel_rfl) (by kernel_rfl) (fun _ _ _ h => h) (by rfl) ?_ hHeld ?_
                · intro w1 hSw; go_simp
                (try simp only [Act.put, List.setIfInBounds_toArray, List.set_cons_zero, List.set_cons_succ])
                refine takeQ (i := 21) (k := 36) (v := .int .i64 p) rfl (by rfl) (by kernel_rfl) (by kernel_rfl) (by kernel_rfl) (fun _ _ _ h => h) (by rfl) ?_ hHeld ?_
                · intro w1 hSw; (obtain ⟨m0, m1, m2, m3⟩ := arrS_cells hSw.1); go_simp
                (try simp only [Act.put, List.setIfInBounds_toArray, List.set_cons_zero, List.set_cons_succ])
                refine wpAnyH_ready (rs := [22]) (by kernel_rfl) (by simp) ?_
                refine AllReadyH.cons rfl (fun K hK => ?_) AllReadyH.nil
                rw [if_pos (by rfl)]
                go_simp
                go_fit (jD _)
                rintro e0 wz ⟨rfl, hwz⟩
                subst hwz
                refine hK.out _ _ hHeld (fun hHeld => ?_)
                clear hK K
                (try simp only [Act.put, List.setIfInBounds_toArray, List.set_cons_zero, List.set_cons_succ])
                cases d
                · skip
                  refine takeQ (i := 23) (k := 38) (v := .bool true) rfl (by rfl) (by kernel_rfl) (by kernel_rfl) (by kernel_rfl) (fun _ _ _ h => h) (by rfl) ?_ hHeld ?_
                  · intro w1 hSw; go_simp
                  (try simp only [Act.put, List.setIfInBounds_toArray, List.set_cons_zero, List.set_cons_succ])
                  refine takeQ (i := 24) (k := 39) (v := .bool true) rfl (by rfl) (by kernel_rfl) (by kernel_rfl) (by kernel_rfl) (fun _ _ _ h => h) (by rfl) ?_ hHeld ?_
                  · intro w1 hSw; go_simp
                  (try simp only [Act.put, List.setIfInBounds_toArray, List.set_cons_zero, List.set_cons_succ])
                  refine takeQ (i := 25) (k := 40) (v := .bool true) rfl (by rfl) (by kernel_rfl) (by kernel_rfl) (by kernel_rfl) (fun _ _ _ h => h) (by rfl) ?_ hHeld ?_
                  · intro w1 hSw; go_simp
                  (try simp only [Act.put, List.setIfInBounds_toArray, List.set_cons_zero, List.set_cons_succ])
                  refine skipQ (i := 26) (k := 41) rfl (by rfl) (by kernel_rfl) (by kernel_rfl) (by kernel_rfl) (fun _ _ _ h => h) (by rfl) hHeld ?_
                  (try simp only [Act.put, List.setIfInBounds_toArray, List.set_cons_zero, List.set_cons_succ])
                  refine skipQ (i := 27) (k := 42) rfl (by rfl) (by kernel_rfl) (by kernel_rfl) (by kernel_rfl) (fun _ _ _ h => h) (by rfl) hHeld ?_
                  (try simp only [Act.put, List.setIfInBounds_toArray, List.set_cons_zero, List.set_cons_succ])
                  refine skipQ (i := 28) (k := 43) rfl (by rfl) (by kernel_rfl) (by kernel_rfl) (by kernel_rfl) (fun _ _ _ h => h) (by rfl) hHeld ?_
                  (try simp only [Act.put, List.setIfInBounds_toArray, List.set_cons_zero, List.set_cons_succ])
                  refine skipQ (i := 29) (k := 44) rfl (by rfl) (by kernel_rfl) (by kernel_rfl) (by kernel_rfl) (fun _ _ _ h => h) (by rfl) hHeld ?_
                  (try simp only [Act.put, List.setIfInBounds_toArray, List.set_cons_zero, List.set_cons_succ])
                  refine takeQ (i := 30) (k := 45) (v := .bool true) rfl (by rfl) (by kernel_rfl) (by kernel_rfl) (by kernel_rfl) (fun _ _ _ h => h) (by rfl) ?_ hHeld ?_
                  · intro w1 hSw; go_simp
                  (try simp only [Act.put, List.setIfInBounds_toArray, List.set_cons_zero, List.set_cons_succ])
                  refine takeQ (i := 31) (k := 46) (v := .bool true) rfl (by rfl) (by kernel_rfl) (by kernel_rfl) (by kernel_rfl) (fun _ _ _ h => h) (by rfl) ?_ hHeld ?_
                  · intro w1 hSw; go_simp
                  (try simp only [Act.put, List.setIfInBounds_toArray, List.set_cons_zero, List.set_cons_succ])
                  refine skipQ (i := 32) (k := 47) rfl (by rfl) (by kernel_rfl) (by kernel_rfl) (by kernel_rfl) (fun _ _ _ h => h) (by rfl) hHeld ?_
                  (try simp only [Act.put, List.setIfInBounds_toArray, List.set_cons_zero, List.set_cons_succ])
                  refine skipQ (i := 33) (k := 48) rfl (by rfl) (by kernel_rfl) (by kernel_rfl) (by kernel_rfl) (fun _ _ _ h => h) (by rfl) hHeld ?_
                  (try simp only [Act.put, List.setIfInBounds_toArray, List.set_cons_zero, List.set_cons_succ])
                  refine skipQ (i := 34) (k := 49) rfl (by rfl) (by kernel_rfl) (by kernel_rfl) (by kernel_rfl) (fun _ _ _ h => h) (by rfl) hHeld ?_
                  (try simp only [Act.put, List.setIfInBounds_toArray, List.set_cons_zero, List.set_cons_succ])
                  refine skipQ (i := 35) (k := 50) rfl (by rfl) (by kernel_rfl) (by kernel_rfl) (by kernel_rfl) (fun _ _ _ h => h) (by rfl) hHeld ?_
                  (try simp only [Act.put, List.setIfInBounds_toArray, List.set_cons_zero, List.set_cons_succ])
                  refine skipQ (i := 36) (k := 51) rfl (by rfl) (by kernel_rfl) (by kernel_rfl) (by kernel_rfl) (fun _ _ _ h => h) (by rfl) hHeld ?_
                  (try simp only [Act.put, List.setIfInBounds_toArray, List.set_cons_zero, List.set_cons_succ])
                  refine skipQ (i := 37) (k := 52) rfl (by rfl) (by kernel_rfl) (by kernel_rfl) (by kernel_rfl) (fun _ _ _ h => h) (by rfl) hHeld ?_
                  (try simp only [Act.put, List.setIfInBounds_toArray, List.set_cons_zero, List.set_cons_succ])
                  refine skipQ (i := 38) (k := 53) rfl (by rfl) (by kernel_rfl) (by kernel_rfl) (by kernel_rfl) (fun _ _ _ h => h) (by rfl) hHeld ?_
                  (try simp only [Act.put, List.setIfInBounds_toArray, List.set_cons_zero, List.set_cons_succ])
                  refine skipQ (i := 39) (k := 54) rfl (by rfl) (by kernel_rfl) (by kernel_rfl) (by kernel_rfl) (fun _ _ _ h => h) (by rfl) hHeld ?_
                  (try simp only [Act.put, List.setIfInBounds_toArray, List.set_cons_zero, List.set_cons_succ])
                  refine skipQ (i := 40) (k := 55) rfl (by rfl) (by kernel_rfl) (by kernel_rfl) (by kernel_rfl) (fun _ _ _ h => h) (by rfl) hHeld ?_
                  (try simp only [Act.put, List.setIfInBounds_toArray, List.set_cons_zero, List.set_cons_succ])
                  refine skipQ (i := 41) (k := 56) rfl (by rfl) (by kernel_rfl) (by kernel_rfl) (by kernel_rfl) (fun _ _ _ h => h) (by rfl) hHeld ?_
                  (try simp only [Act.put, List.setIfInBounds_toArray, List.set_cons_zero, List.set_cons_succ])
                  refine skipQ (i := 42) (k := 57) rfl (by rfl) (by kernel_rfl) (by kernel_rfl) (by kernel_rfl) (fun _ _ _ h => h) (by rfl) hHeld ?_
                  (try simp only [Act.put, List.setIfInBounds_toArray, List.set_cons_zero, List.set_cons_succ])
                  refine skipQ (i := 43) (k := 58) rfl (by rfl) (by kernel_rfl) (by kernel_rfl) (by kernel_rfl) (fun _ _ _ h => h) (by rfl) hHeld ?_
                  (try simp only [Act.put, List.setIfInBounds_toArray, List.set_cons_zero, List.set_cons_succ])
                  refine skipQ (i := 44) (k := 59) rfl (by rfl) (by kernel_rfl) (by kernel_rfl) (by kernel_rfl) (fun _ _ _ h => h) (by rfl) hHeld ?_
                  (try simp only [Act.put, List.setIfInBounds_toArray, List.set_cons_zero, List.set_cons_succ])
                  refine takeQ (i := 45) (k := 60) (v := .bool true) rfl (by rfl) (by kernel_rfl) (by kernel_rfl) (by kernel_rfl) (fun _ _ _ h => h) (by rfl) ?_ hHeld ?_
                  · intro w1 hSw; go_simp
                  (try simp only [Act.put, List.setIfInBounds_toArray, List.set_cons_zero, List.set_cons_succ])
                  refine wpAnyH_done (by kernel_rfl) ?_ _
                  exact ⟨⟨congrArg Value.bool (show true = bad by rw [HBAD.out]; simp), hHeld⟩, by simp only [putAll, Act.put, List.setIfInBounds_toArray, List.set_cons_zero, List.set_cons_succ]; rfl⟩
                · skip
                  refine takeQ (i := 23) (k := 38) (v := .bool false) rfl (by rfl) (by kernel_rfl) (by kernel_rfl) (by kernel_rfl) (fun _ _ _ h => h) (by rfl) ?_ hHeld ?_
                  · intro w1 hSw; go_simp
                  (try simp only [Act.put, List.setIfInBounds_toArray, List.set_cons_zero, List.set_cons_succ])
                  refine takeQ (i := 24) (k := 39) (v := .bool false) rfl (by rfl) (by kernel_rfl) (by kernel_rfl) (by kernel_rfl) (fun _ _ _ h => h) (by rfl) ?_ hHeld ?_
                  · intro w1 hSw; go_simp
                  (try simp only [Act.put, List.setIfInBounds_toArray, List.set_cons_zero, List.set_cons_succ])
                  refine takeQ (i := 25) (k := 40) (v := .bool false) rfl (by rfl) (by kernel_rfl) (by kernel_rfl) (by kernel_rfl) (fun _ _ _ h => h) (by rfl) ?_ hHeld ?_
                  · intro w1 hSw; go_simp
                  (try simp only [Act.put, List.setIfInBounds_toArray, List.set_cons_zero, List.set_cons_succ])
                  refine takeQ (i := 26) (k := 41) (v := .pointer (some ⟨bx, 3, none⟩)) rfl (by rfl) (by kernel_rfl) (by kernel_rfl) (by kernel_rfl) (fun _ _ _ h => h) (by rfl) ?_ hHeld ?_
                  · intro w1 hSw; go_simp
                  (try simp only [Act.put, List.setIfInBounds_toArray, List.set_cons_zero, List.set_cons_succ])
                  refine takeQ (i := 27) (k := 42) (v := .string s) rfl (by rfl) (by kernel_rfl) (by kernel_rfl) (by kernel_rfl) (fun _ _ _ h => h) (by rfl) ?_ hHeld ?_
                  · intro w1 hSw; (obtain ⟨m0, m1, m2, m3⟩ := arrS_cells hSw.1); go_simp
                  (try simp only [Act.put, List.setIfInBounds_toArray, List.set_cons_zero, List.set_cons_succ])
                  refine wpAnyH_ready (rs := [28]) (by kernel_rfl) (by simp) ?_
                  refine AllReadyH.cons rfl (fun K hK => ?_) AllReadyH.nil
                  rw [if_pos (by rfl)]
                  go_simp
                  go_fit (jE _)
                  rintro e0 wz ⟨rfl, hbz⟩
                  refine hK.out _ _ ⟨arrS_on hHeld.1 hbz, hHeld.2.1.on hbz, hHeld.2.2.trans (hbz.mono hHeld.2.2.size)⟩ (fun hHeld => ?_)
                  clear hK K
                  (try simp only [Act.put, List.setIfInBounds_toArray, List.set_cons_zero, List.set_cons_succ])
                  cases e
                  · skip
                    refine takeQ (i := 29) (k := 44) (v := .bool true) rfl (by rfl) (by kernel_rfl) (by kernel_rfl) (by kernel_rfl) (fun _ _ _ h => h) (by rfl) ?_ hHeld ?_
                    · intro w1 hSw; go_simp
                    (try simp only [Act.put, List.setIfInBounds_toArray, List.set_cons_zero, List.set_cons_succ])
                    refine takeQ (i := 30) (k := 45) (v := .bool true) rfl (by rfl) (by kernel_rfl) (by kernel_rfl) (by kernel_rfl) (fun _ _ _ h => h) (by rfl) ?_ hHeld ?_
                    · intro w1 hSw; go_simp
                    (try simp only [Act.put, List.setIfInBounds_toArray, List.set_cons_zero, List.set_cons_succ])
                    refine takeQ (i := 31) (k := 46) (v := .bool true) rfl (by rfl) (by kernel_rfl) (by kernel_rfl) (by kernel_rfl) (fun _ _ _ h => h) (by rfl) ?_ hHeld ?_
                    · intro w1 hSw; go_simp
                    (try simp only [Act.put, List.setIfInBounds_toArray, List.set_cons_zero, List.set_cons_succ])
                    refine skipQ (i := 32) (k := 47) rfl (by rfl) (by kernel_rfl) (by kernel_rfl) (by kernel_rfl) (fun _ _ _ h => h) (by rfl) hHeld ?_
                    (try simp only [Act.put, List.setIfInBounds_toArray, List.set_cons_zero, List.set_cons_succ])
                    refine skipQ (i := 33) (k := 48) rfl (by rfl) (by kernel_rfl) (by kernel_rfl) (by kernel_rfl) (fun _ _ _ h => h) (by rfl) hHeld ?_
                    (try simp only [Act.put, List.setIfInBounds_toArray, List.set_cons_zero, List.set_cons_succ])
                    refine skipQ (i := 34) (k := 49) rfl (by rfl) (by kernel_rfl) (by kernel_rfl) (by kernel_rfl) (fun _ _ _ h => h) (by rfl) hHeld ?_
                    (try simp only [Act.put, List.setIfInBounds_toArray, List.set_cons_zero, List.set_cons_succ])
                    refine skipQ (i := 35) (k := 50) rfl (by rfl) (by kernel_rfl) (by kernel_rfl) (by kernel_rfl) (fun _ _ _ h => h) (by rfl) hHeld ?_
                    (try simp only [Act.put, List.setIfInBounds_toArray, List.set_cons_zero, List.set_cons_succ])
                    refine skipQ (i := 36) (k := 51) rfl (by rfl) (by kernel_rfl) (by kernel_rfl) (by kernel_rfl) (fun _ _ _ h => h) (by rfl) hHeld ?_
                    (try simp only [Act.put, List.setIfInBounds_toArray, List.set_cons_zero, List.set_cons_succ])
                    refine skipQ (i := 37) (k := 52) rfl (by rfl) (by kernel_rfl) (by kernel_rfl) (by kernel_rfl) (fun _ _ _ h => h) (by rfl) hHeld ?_
                    (try simp only [Act.put, List.setIfInBounds_toArray, List.set_cons_zero, List.set_cons_succ])
                    refine skipQ (i := 38) (k := 53) rfl (by rfl) (by kernel_rfl) (by kernel_rfl) (by kernel_rfl) (fun _ _ _ h => h) (by rfl) hHeld ?_
                    (try simp only [Act.put, List.setIfInBounds_toArray, List.set_cons_zero, List.set_cons_succ])
                    refine skipQ (i := 39) (k := 54) rfl (by rfl) (by kernel_rfl) (by kernel_rfl) (by kernel_rfl) (fun _ _ _ h => h) (by rfl) hHeld ?_
                    (try simp only [Act.put, List.setIfInBounds_toArray, List.set_cons_zero, List.set_cons_succ])
                    refine skipQ (i := 40) (k := 55) rfl (by rfl) (by kernel_rfl) (by kernel_rfl) (by kernel_rfl) (fun _ _ _ h => h) (by rfl) hHeld ?_
                    (try simp only [Act.put, List.setIfInBounds_toArray, List.set_cons_zero, List.set_cons_succ])
                    refine skipQ (i := 41) (k := 56) rfl (by rfl) (by kernel_rfl) (by kernel_rfl) (by kernel_rfl) (fun _ _ _ h => h) (by rfl) hHeld ?_
                    (try simp only [Act.put, List.setIfInBounds_toArray, List.set_cons_zero, List.set_cons_succ])
                    refine skipQ (i := 42) (k := 57) rfl (by rfl) (by kernel_rfl) (by kernel_rfl) (by kernel_rfl) (fun _ _ _ h => h) (by rfl) hHeld ?_
                    (try simp only [Act.put, List.setIfInBounds_toArray, List.set_cons_zero, List.set_cons_succ])
                    refine skipQ (i := 43) (k := 58) rfl (by rfl) (by kernel_rfl) (by kernel_rfl) (by kernel_rfl) (fun _ _ _ h => h) (by rfl) hHeld ?_
                    (try simp only [Act.put, List.setIfInBounds_toArray, List.set_cons_zero, List.set_cons_succ])
                    refine skipQ (i := 44) (k := 59) rfl (by rfl) (by kernel_rfl) (by kernel_rfl) (by kernel_rfl) (fun _ _ _ h => h) (by rfl) hHeld ?_
                    (try simp only [Act.put, List.setIfInBounds_toArray, List.set_cons_zero, List.set_cons_succ])
                    refine takeQ (i := 45) (k := 60) (v := .bool true) rfl (by rfl) (by kernel_rfl) (by kernel_rfl) (by kernel_rfl) (fun _ _ _ h => h) (by rfl) ?_ hHeld ?_
                    · intro w1 hSw; go_simp
                    (try simp only [Act.put, List.setIfInBounds_toArray, List.set_cons_zero, List.set_cons_succ])
                    refine wpAnyH_done (by kernel_rfl) ?_ _
                    exact ⟨⟨congrArg Value.bool (show true = bad by rw [HBAD.out]; simp), hHeld⟩, by simp only [putAll, Act.put, List.setIfInBounds_toArray, List.set_cons_zero, List.set_cons_succ]; rfl⟩
                  · skip
                    refine takeQ (i := 29) (k := 44) (v := .bool false) rfl (by rfl) (by kernel_rfl) (by kernel_rfl) (by kernel_rfl) (fun _ _ _ h => h) (by rfl) ?_ hHeld ?_
                    · intro w1 hSw; go_simp
                    (try simp only [Act.put, List.setIfInBounds_toArray, List.set_cons_zero, List.set_cons_succ])
                    refine takeQ (i := 30) (k := 45) (v := .bool false) rfl (by rfl) (by kernel_rfl) (by kernel_rfl) (by kernel_rfl) (fun _ _ _ h => h) (by rfl) ?_ hHeld ?_
                    · intro w1 hSw; go_simp
                    (try simp only [Act.put, List.setIfInBounds_toArray, List.set_cons_zero, List.set_cons_succ])
                    refine takeQ (i := 31) (k := 46) (v := .bool false) rfl (by rfl) (by kernel_rfl) (by kernel_rfl) (by kernel_rfl) (fun _ _ _ h => h) (by rfl) ?_ hHeld ?_
                    · intro w1 hSw; go_simp
                    (try simp only [Act.put, List.setIfInBounds_toArray, List.set_cons_zero, List.set_cons_succ])
                    refine takeQ (i := 32) (k := 47) (v := .pointer (some ⟨bx, 1, none⟩)) rfl (by rfl) (by kernel_rfl) (by kernel_rfl) (by kernel_rfl) (fun _ _ _ h => h) (by rfl) ?_ hHeld ?_
                    · intro w1 hSw; go_simp
                    (try simp only [Act.put, List.setIfInBounds_toArray, List.set_cons_zero, List.set_cons_succ])
                    refine takeQ (i := 33) (k := 48) (v := .bool o) rfl (by rfl) (by kernel_rfl) (by kernel_rfl) (by kernel_rfl) (fun _ _ _ h => h) (by rfl) ?_ hHeld ?_
                    · intro w1 hSw; (obtain ⟨m0, m1, m2, m3⟩ := arrS_cells hSw.1); go_simp
                    (try simp only [Act.put, List.setIfInBounds_toArray, List.set_cons_zero, List.set_cons_succ])
                    cases o
                    · skip
                      refine takeQ (i := 34) (k := 49) (v := .bool true) rfl (by rfl) (by kernel_rfl) (by kernel_rfl) (by kernel_rfl) (fun _ _ _ h => h) (by rfl) ?_ hHeld ?_
                      · intro w1 hSw; go_simp
                      (try simp only [Act.put, List.setIfInBounds_toArray, List.set_cons_zero, List.set_cons_succ])
                      refine takeQ (i := 35) (k := 50) (v := .bool true) rfl (by rfl) (by kernel_rfl) (by kernel_rfl) (by kernel_rfl) (fun _ _ _ h => h) (by rfl) ?_ hHeld ?_
                      · intro w1 hSw; go_simp
                      (try simp only [Act.put, List.setIfInBounds_toArray, List.set_cons_zero, List.set_cons_succ])
                      refine takeQ (i := 36) (k := 51) (v := .pointer (some ⟨bx, 2, none⟩)) rfl (by rfl) (by kernel_rfl) (by kernel_rfl) (by kernel_rfl) (fun _ _ _ h => h) (by rfl) ?_ hHeld ?_
                      · intro w1 hSw; go_simp
                      (try simp only [Act.put, List.setIfInBounds_toArray, List.set_cons_zero, List.set_cons_succ])
                      refine takeQ (i := 37) (k := 52) (v := .int .i64 p) rfl (by rfl) (by kernel_rfl) (by kernel_rfl) (by kernel_rfl) (fun _ _ _ h => h) (by rfl) ?_ hHeld ?_
                      · intro w1 hSw; (obtain ⟨m0, m1, m2, m3⟩ := arrS_cells hSw.1); go_simp
                      (try simp only [Act.put, List.setIfInBounds_toArray, List.set_cons_zero, List.set_cons_succ])
                      refine takeQ (i := 38) (k := 53) (v := .bool bp) rfl (by rfl) (by kernel_rfl) (by kernel_rfl) (by kernel_rfl) (fun _ _ _ h => h) (by rfl) ?_ hHeld ?_
                      · intro w1 hSw; go_simp
                      (try simp only [Act.put, List.setIfInBounds_toArray, List.set_cons_zero, List.set_cons_succ])
                      cases bp
                      · skip
                        refine takeQ (i := 39) (k := 54) (v := .bool false) rfl (by rfl) (by kernel_rfl) (by kernel_rfl) (by kernel_rfl) (fun _ _ _ h => h) (by rfl) ?_ hHeld ?_
                        · intro w1 hSw; go_simp
                        (try simp only [Act.put, List.setIfInBounds_toArray, List.set_cons_zero, List.set_cons_succ])
                        refine takeQ (i := 40) (k := 55) (v := .pointer (some ⟨bx, 3, none⟩)) rfl (by rfl) (by kernel_rfl) (by kernel_rfl) (by kernel_rfl) (fun _ _ _ h => h) (by rfl) ?_ hHeld ?_
                        · intro w1 hSw; go_simp
                        (try simp only [Act.put, List.setIfInBounds_toArray, List.set_cons_zero, List.set_cons_succ])
                        refine takeQ (i := 41) (k := 56) (v := .string s) rfl (by rfl) (by kernel_rfl) (by kernel_rfl) (by kernel_rfl) (fun _ _ _ h => h) (by rfl) ?_ hHeld ?_
                        · intro w1 hSw; (obtain ⟨m0, m1, m2, m3⟩ := arrS_cells hSw.1); go_simp
                        (try simp only [Act.put, List.setIfInBounds_toArray, List.set_cons_zero, List.set_cons_succ])
                        refine takeQ (i := 42) (k := 57) (v := .bool (!es)) rfl (by rfl) (by kernel_rfl) (by kernel_rfl) (by kernel_rfl) (fun _ _ _ h => h) (by rfl) ?_ hHeld ?_
                        · intro w1 hSw; go_simp
                        (try simp only [Act.put, List.setIfInBounds_toArray, List.set_cons_zero, List.set_cons_succ])
                        cases es
                        · skip
                          refine takeQ (i := 43) (k := 58) (v := .bool true) rfl (by rfl) (by kernel_rfl) (by kernel_rfl) (by kernel_rfl) (fun _ _ _ h => h) (by rfl) ?_ hHeld ?_
                          · intro w1 hSw; go_simp
                          (try simp only [Act.put, List.setIfInBounds_toArray, List.set_cons_zero, List.set_cons_succ])
                          refine takeQ (i := 44) (k := 59) (v := .bool true) rfl (by rfl) (by kernel_rfl) (by kernel_rfl) (by kernel_rfl) (fun _ _ _ h => h) (by rfl) ?_ hHeld ?_
                          · intro w1 hSw; go_simp
                          (try simp only [Act.put, List.setIfInBounds_toArray, List.set_cons_zero, List.set_cons_succ])
                          refine takeQ (i := 45) (k := 60) (v := .bool true) rfl (by rfl) (by kernel_rfl) (by kernel_rfl) (by kernel_rfl) (fun _ _ _ h => h) (by rfl) ?_ hHeld ?_
                          · intro w1 hSw; go_simp
                          (try simp only [Act.put, List.setIfInBounds_toArray, List.set_cons_zero, List.set_cons_succ])
                          refine wpAnyH_done (by kernel_rfl) ?_ _
                          exact ⟨⟨congrArg Value.bool (show true = bad by rw [HBAD.out]; simp), hHeld⟩, by simp only [putAll, Act.put, List.setIfInBounds_toArray, List.set_cons_zero, List.set_cons_succ]; rfl⟩
                        · skip
                          refine takeQ (i := 43) (k := 58) (v := .bool false) rfl (by rfl) (by kernel_rfl) (by kernel_rfl) (by kernel_rfl) (fun _ _ _ h => h) (by rfl) ?_ hHeld ?_
                          · intro w1 hSw; go_simp
                          (try simp only [Act.put, List.setIfInBounds_toArray, List.set_cons_zero, List.set_cons_succ])
                          refine takeQ (i := 44) (k := 59) (v := .bool false) rfl (by rfl) (by kernel_rfl) (by kernel_rfl) (by kernel_rfl) (fun _ _ _ h => h) (by rfl) ?_ hHeld ?_
                          · intro w1 hSw; go_simp
                          (try simp only [Act.put, List.setIfInBounds_toArray, List.set_cons_zero, List.set_cons_succ])
                          refine takeQ (i := 45) (k := 60) (v := .bool false) rfl (by rfl) (by kernel_rfl) (by kernel_rfl) (by kernel_rfl) (fun _ _ _ h => h) (by rfl) ?_ hHeld ?_
                          · intro w1 hSw; go_simp
                          (try simp only [Act.put, List.setIfInBounds_toArray, List.set_cons_zero, List.set_cons_succ])
                          refine wpAnyH_done (by kernel_rfl) ?_ _
                          exact ⟨⟨congrArg Value.bool (show false = bad by rw [HBAD.out]; simp), hHeld⟩, by simp only [putAll, Act.put, List.setIfInBounds_toArray, List.set_cons_zero, List.set_cons_succ]; rfl⟩
                      · skip
                        refine takeQ (i := 39) (k := 54) (v := .bool true) rfl (by rfl) (by kernel_rfl) (by kernel_rfl) (by kernel_rfl) (fun _ _ _ h => h) (by rfl) ?_ hHeld ?_
                        · intro w1 hSw; go_simp
                        (try simp only [Act.put, List.setIfInBounds_toArray, List.set_cons_zero, List.set_cons_succ])
                        refine skipQ (i := 40) (k := 55) rfl (by rfl) (by kernel_rfl) (by kernel_rfl) (by kernel_rfl) (fun _ _ _ h => h) (by rfl) hHeld ?_
                        (try simp only [Act.put, List.setIfInBounds_toArray, List.set_cons_zero, List.set_cons_succ])
                        refine skipQ (i := 41) (k := 56) rfl (by rfl) (by kernel_rfl) (by kernel_rfl) (by kernel_rfl) (fun _ _ _ h => h) (by rfl) hHeld ?_
                        (try simp only [Act.put, List.setIfInBounds_toArray, List.set_cons_zero, List.set_cons_succ])
                        refine skipQ (i := 42) (k := 57) rfl (by rfl) (by kernel_rfl) (by kernel_rfl) (by kernel_rfl) (fun _ _ _ h => h) (by rfl) hHeld ?_
                        (try simp only [Act.put, List.setIfInBounds_toArray, List.set_cons_zero, List.set_cons_succ])
                        refine takeQ (i := 43) (k := 58) (v := .bool true) rfl (by rfl) (by kernel_rfl) (by kernel_rfl) (by kernel_rfl) (fun _ _ _ h => h) (by rfl) ?_ hHeld ?_
                        · intro w1 hSw; go_simp
                        (try simp only [Act.put, List.setIfInBounds_toArray, List.set_cons_zero, List.set_cons_succ])
                        refine takeQ (i := 44) (k := 59) (v := .bool true) rfl (by rfl) (by kernel_rfl) (by kernel_rfl) (by kernel_rfl) (fun _ _ _ h => h) (by rfl) ?_ hHeld ?_
                        · intro w1 hSw; go_simp
                        (try simp only [Act.put, List.setIfInBounds_toArray, List.set_cons_zero, List.set_cons_succ])
                        refine takeQ (i := 45) (k := 60) (v := .bool true) rfl (by rfl) (by kernel_rfl) (by kernel_rfl) (by kernel_rfl) (fun _ _ _ h => h) (by rfl) ?_ hHeld ?_
                        · intro w1 hSw; go_simp
                        (try simp only [Act.put, List.setIfInBounds_toArray, List.set_cons_zero, List.set_cons_succ])
                        refine wpAnyH_done (by kernel_rfl) ?_ _
                        exact ⟨⟨congrArg Value.bool (show true = bad by rw [HBAD.out]; simp), hHeld⟩, by simp only [putAll, Act.put, List.setIfInBounds_toArray, List.set_cons_zero, List.set_cons_succ]; rfl⟩
                    · skip
                      refine takeQ (i := 34) (k := 49) (v := .bool false) rfl (by rfl) (by kernel_rfl) (by kernel_rfl) (by kernel_rfl) (fun _ _ _ h => h) (by rfl) ?_ hHeld ?_
                      · intro w1 hSw; go_simp
                      (try simp only [Act.put, List.setIfInBounds_toArray, List.set_cons_zero, List.set_cons_succ])
                      refine takeQ (i := 35) (k := 50) (v := .bool false) rfl (by rfl) (by kernel_rfl) (by kernel_rfl) (by kernel_rfl) (fun _ _ _ h => h) (by rfl) ?_ hHeld ?_
                      · intro w1 hSw; go_simp
                      (try simp only [Act.put, List.setIfInBounds_toArray, List.set_cons_zero, List.set_cons_succ])
                      refine skipQ (i := 36) (k := 51) rfl (by rfl) (by kernel_rfl) (by kernel_rfl) (by kernel_rfl) (fun _ _ _ h => h) (by rfl) hHeld ?_
                      (try simp only [Act.put, List.setIfInBounds_toArray, List.set_cons_zero, List.set_cons_succ])
                      refine skipQ (i := 37) (k := 52) rfl (by rfl) (by kernel_rfl) (by kernel_rfl) (by kernel_rfl) (fun _ _ _ h => h) (by rfl) hHeld ?_
                      (try simp only [Act.put, List.setIfInBounds_toArray, List.set_cons_zero, List.set_cons_succ])
                      refine skipQ (i := 38) (k := 53) rfl (by rfl) (by kernel_rfl) (by kernel_rfl) (by kernel_rfl) (fun _ _ _ h => h) (by rfl) hHeld ?_
                      (try simp only [Act.put, List.setIfInBounds_toArray, List.set_cons_zero, List.set_cons_succ])
                      refine skipQ (i := 39) (k := 54) rfl (by rfl) (by kernel_rfl) (by kernel_rfl) (by kernel_rfl) (fun _ _ _ h => h) (by rfl) hHeld ?_
                      (try simp only [Act.put, List.setIfInBounds_toArray, List.set_cons_zero, List.set_cons_succ])
                      refine skipQ (i := 40) (k := 55) rfl (by rfl) (by kernel_rfl) (by kernel_rfl) (by kernel_rfl) (fun _ _ _ h => h) (by rfl) hHeld ?_
                      (try simp only [Act.put, List.setIfInBounds_toArray, List.set_cons_zero, List.set_cons_succ])
                      refine skipQ (i := 41) (k := 56) rfl (by rfl) (by kernel_rfl) (by kernel_rfl) (by kernel_rfl) (fun _ _ _ h => h) (by rfl) hHeld ?_
                      (try simp only [Act.put, List.setIfInBounds_toArray, List.set_cons_zero, List.set_cons_succ])
                      refine skipQ (i := 42) (k := 57) rfl (by rfl) (by kernel_rfl) (by kernel_rfl) (by kernel_rfl) (fun _ _ _ h => h) (by rfl) hHeld ?_
                      (try simp only [Act.put, List.setIfInBounds_toArray, List.set_cons_zero, List.set_cons_succ])
                      refine skipQ (i := 43) (k := 58) rfl (by rfl) (by kernel_rfl) (by kernel_rfl) (by kernel_rfl) (fun _ _ _ h => h) (by rfl) hHeld ?_
                      (try simp only [Act.put, List.setIfInBounds_toArray, List.set_cons_zero, List.set_cons_succ])
                      refine takeQ (i := 44) (k := 59) (v := .bool false) rfl (by rfl) (by kernel_rfl) (by kernel_rfl) (by kernel_rfl) (fun _ _ _ h => h) (by rfl) ?_ hHeld ?_
                      · intro w1 hSw; go_simp
                      (try simp only [Act.put, List.setIfInBounds_toArray, List.set_cons_zero, List.set_cons_succ])
                      refine takeQ (i := 45) (k := 60) (v := .bool false) rfl (by rfl) (by kernel_rfl) (by kernel_rfl) (by kernel_rfl) (fun _ _ _ h => h) (by rfl) ?_ hHeld ?_
                      · intro w1 hSw; go_simp
                      (try simp only [Act.put, List.setIfInBounds_toArray, List.set_cons_zero, List.set_cons_succ])
                      refine wpAnyH_done (by kernel_rfl) ?_ _
                      exact ⟨⟨congrArg Value.bool (show false = bad by rw [HBAD.out]; simp), hHeld⟩, by simp only [putAll, Act.put, List.setIfInBounds_toArray, List.set_cons_zero, List.set_cons_succ]; rfl⟩
      rintro vs W2 ⟨hv, hS⟩
      simp only [putAll, Act.put, List.setIfInBounds_toArray, List.set_cons_zero, List.set_cons_succ, hv]
      have HS := Lib.hid hS.2.2
      clear hv hS HX0 HX1 jA jD jE
      cases bad
      · have hall : b1 = true ∧ lt0 = true ∧ d = true ∧ e = true ∧ (o || (!bp && es)) = true := by
          have h := HBAD.out
          generalize (o || (!bp && es)) = f at h ⊢
          revert h
          cases b1 <;> cases lt0 <;> cases d <;> cases e <;> cases f <;> decide
        have HALL := Lib.hid hall
        clear hall
        go_wp2
        go_roundw
        case rel =>
          refine ⟨k + 1, by omega, by go_num, incR_succ HI.out hlt1 (fun h0 h' => ?_), allR_succ HA.out hlt1 ?_, HS.out⟩
          · have h := HLT1.out (k - 1) (by omega) h'
            rw [HALL.out.2.1] at h
            rw [HXR.out]
            exact h.symm
          · rw [HSE.out, HALL.out.1, HALL.out.2.2.1, HALL.out.2.2.2.1, HALL.out.2.2.2.2]
            rfl
        case measure => simp [intOf]; omega
      · have HL : Hid (Z = false) := Lib.hid (by
          rw [← HZ.out]
          refine okB_false (fun h => ?_)
          have q1 := h.2.2 k hlt1 hlt1
          rw [HSE.out] at q1
          have q2 : lt0 = true := by
            rcases Nat.eq_zero_or_pos k with h0 | h0
            · exact HLT0.out h0
            · have hk1 : k - 1 < xs.length := by omega
              rw [HLT1.out (k - 1) (by omega) hk1, ← HXR.out]
              exact h.2.1 k hlt1 h0 hlt1 hk1
          have q3 := HBAD.out
          rw [q2] at q3
          generalize (o || (!bp && es)) = f at q1 q3
          revert q1 q3
          cases b1 <;> cases d <;> cases e <;> cases f <;> decide)
        go_wp2
        go_ret
        exact ⟨ret_bool HL.out.symm, HS.out⟩
    · have HL : Hid (Z = decide (n ≤ 5)) := Lib.hid (by
        rw [← HZ.out]
        by_cases h5 : n ≤ 5
        · rw [decide_eq_true h5]
          refine okB_true ⟨by rw [HN.out]; exact h5, fun i hi h0 h1 h' => HI.out i hi h0 (by rw [HN.out] at hi; omega) h', fun i hi h0 => HA.out i hi (by rw [HN.out] at hi; omega)⟩
        · rw [decide_eq_false h5]
          exact okB_false (fun h => h5 (by have := h.1; rw [HN.out] at this; exact this)))
      clear hb
      go_wp2
      go_ret
      exact ⟨ret_bool (by rw [HL.out]; simp; omega), HB.out⟩
end Go.Proofs.Ytafdjjdmcnlddaa

namespace Go.Proofs.Ytafdjjdmcnlddaa
set_option linter.unusedSimpArgs false
set_option linter.unusedVariables false
open Go.RowKit

/-- An element of a row, and a box. -/
abbrev Elt_se (g k bx : Nat) (x y : SeL) (wr W : World) : Prop := (((W.cell? ⟨g, k * 4, none⟩ = some (.string x.r) ∧ W.cell? ⟨g, k * 4 + 1, none⟩ = some (.bool x.o) ∧ W.cell? ⟨g, k * 4 + 2, none⟩ = some (.int .i64 x.p) ∧ W.cell? ⟨g, k * 4 + 3, none⟩ = some (.string x.s)) ∧
  (W.cell? ⟨bx, 0, none⟩ = some (.string y.r) ∧ W.cell? ⟨bx, 1, none⟩ = some (.bool y.o) ∧ W.cell? ⟨bx, 2, none⟩ = some (.int .i64 y.p) ∧ W.cell? ⟨bx, 3, none⟩ = some (.string y.s))) ∧ (Below wr.heap.size wr W ∧ g < wr.heap.size ∧ bx < wr.heap.size))
theorem elt_se_on {g k bx : Nat} {x y : SeL} {wr W W2 : World} (h : Elt_se g k bx x y wr W) (hb : Below W.heap.size W W2) : Elt_se g k bx x y wr W2 := by
  obtain ⟨⟨⟨c0, c1, c2, c3⟩, d0, d1, d2, d3⟩, h1, h2, h3⟩ := h
  have ha : g < W.heap.size := Nat.lt_of_lt_of_le h2 h1.size
  have hx : bx < W.heap.size := Nat.lt_of_lt_of_le h3 h1.size
  exact ⟨⟨⟨(hb.cell (p := ⟨g, k * 4, none⟩) ha).trans c0, (hb.cell (p := ⟨g, k * 4 + 1, none⟩) ha).trans c1, (hb.cell (p := ⟨g, k * 4 + 2, none⟩) ha).trans c2, (hb.cell (p := ⟨g, k * 4 + 3, none⟩) ha).trans c3⟩,
    (hb.cell (p := ⟨bx, 0, none⟩) hx).trans d0, (hb.cell (p := ⟨bx, 1, none⟩) hx).trans d1, (hb.cell (p := ⟨bx, 2, none⟩) hx).trans d2, (hb.cell (p := ⟨bx, 3, none⟩) hx).trans d3⟩, h1.trans (hb.mono h1.size), h2, h3⟩
theorem elt_se_drew {g k bx : Nat} {x y : SeL} {wr W : World} (h : Elt_se g k bx x y wr W) : Elt_se g k bx x y wr W.drew := elt_se_on h (Below.refl _ _).drew
theorem half_nat (i j : Nat) (h : i < j) (hj : j ≤ 5) : i ≤ (i + j) / 2 ∧ (i + j) / 2 < j := by omega
set_option maxRecDepth 100000 in
set_option maxHeartbeats 2000000 in
theorem impl_bsearch (xs : List SeL) (y : SeL) (p : Option Addr) (c : Nat) (w : World) (hn : xs.length ≤ 5) (hI : IncR xs xs.length) (hR : RowC seC 4 w p xs) :
    Calls Try.prog 102 #[.slice p xs.length c, seV y, .func (.func 82) #[] #[]] w fun e w' => e = .returned (.tuple #[.int .i64 (posS y.r xs : Int), .bool (hereB y.r xs)]) ∧ Below w.heap.size w w' := by
  obtain ⟨P, hP⟩ : ∃ P, posS y.r xs = P := ⟨_, rfl⟩
  obtain ⟨Z, hZ⟩ : ∃ Z, hereB y.r xs = Z := ⟨_, rfl⟩
  have HPn : Hid (P ≤ xs.length) := Lib.hid (by rw [← hP]; exact pos_le _ _)
  have HLO : Hid (∀ i (hi : i < xs.length), i < P → Op.bytesLess xs[i].r.toList y.r.toList = true) := Lib.hid (fun i hi h => pos_lo hi (by rw [hP]; exact h))
  have HHI : Hid (∀ i (hi : i < xs.length), P ≤ i → Op.bytesLess xs[i].r.toList y.r.toList = false) := Lib.hid (fun i hi h => pos_hi hI hi (by rw [hP]; exact h))
  have HH1 : Hid (∀ h : P < xs.length, Z = (xs[P].r.toList == y.r.toList)) := Lib.hid (fun h => by subst hP; rw [← hZ]; exact here_at h)
  have HH2 : Hid (¬ P < xs.length → Z = false) := Lib.hid (fun h => by subst hP; rw [← hZ]; exact here_end h)
  obtain ⟨n, hxn⟩ : ∃ n, xs.length = n := ⟨_, rfl⟩
  have HP := Lib.hid (fun W (h : Below w.heap.size w W) => hR.on h)
  have HN := Lib.hid hxn
  rw [hP, hZ]
  rw [hxn] at hn ⊢
  obtain ⟨r, o, pp, s⟩ := y
  unfold seV
  dsimp only at HLO HHI HH1 HH2 ⊢
  clear hR hxn hP hZ hI
  have HA0 : Hid (Arr (w.alloc (.cells #[.string r, .bool o, .int .i64 pp, .string s] 84)) w.heap.size 84 [.string r, .bool o, .int .i64 pp, .string s] ∧ Below w.heap.size w (w.alloc (.cells #[.string r, .bool o, .int .i64 pp, .string s] 84))) := Lib.hid ⟨Arr.fresh w _ [.string r, .bool o, .int .i64 pp, .string s], (Below.refl _ _).alloc (Nat.le_refl _) _⟩
  go_enter Try.func102, Try.ntmps102
  go_wp2
  go_loopw [9, 10] (fun iq jq wr => ∃ i j : Nat, i ≤ P ∧ P ≤ j ∧ j ≤ n ∧ iq = .int .i64 i ∧ jq = .int .i64 j ∧ Arr wr w.heap.size 84 [.string r, .bool o, .int .i64 pp, .string s] ∧ Below w.heap.size w wr) (fun i j _ => (intOf j).toNat - (intOf i).toNat)
  case atStart => exact ⟨0, n, Nat.zero_le _, by have := HPn.out; rw [HN.out] at this; exact this, Nat.le_refl _, rfl, rfl, HA0.out.1, HA0.out.2⟩
  case round =>
    obtain ⟨i, j, hi, hj, hjn, rfl, rfl, hA, hb⟩ := hrel
    have HB := Lib.hid hb
    have HA := Lib.hid hA
    have hzb : w.heap.size < wr.heap.size := (Array.getElem?_eq_some_iff.1 hA).1
    obtain ⟨d0, d1, d2, d3⟩ := arrS_cells hA
    by_cases hlt : i < j
    · obtain ⟨hh1, hh2⟩ := half_nat i j hlt (by omega)
      obtain ⟨h, hh⟩ : ∃ h, (i + j) / 2 = h := ⟨_, rfl⟩
      rw [hh] at hh1 hh2
      have hltn : h < xs.length := by rw [HN.out]; omega
      obtain ⟨g, rfl, hg, a0, a1, a2, a3⟩ := row_se4 (HP.out _ hb) hltn
      obtain ⟨x, hx⟩ : ∃ x, xs[h] = x := ⟨_, rfl⟩
      rw [hx] at a0 a1 a2 a3
      have HX := Lib.hid hx
      have HS : Hid (Elt_se g h w.heap.size x ⟨r, o, pp, s⟩ wr wr) := Lib.hid ⟨⟨⟨a0, a1, a2, a3⟩, d0, d1, d2, d3⟩, Below.refl _ _, hg, hzb⟩
      have i1 := fun W => cmp_res x ⟨r, o, pp, s⟩ W
      unfold seV at i1
      dsimp only at i1
      obtain ⟨z, hz⟩ : ∃ z, cmpI x.r r = z := ⟨_, rfl⟩
      have HC := Lib.hid hz
      rw [hz] at i1
      have hw1 : IntKind.i64.wrap ((i : Int) + (j : Int)) = (i : Int) + (j : Int) := IntWalk.i64_in _ (by omega)
      have q1 : (0 : Int) ≤ (h : Int) := by omega
      have q2 : (h : Int) < (n : Int) := by omega
      clear hb a0 a1 a2 a3 d0 d1 d2 d3 hx hg hz hA
      go_wp2
      rw [show ((i : Int) + (j : Int)) / 2 = (h : Int) by omega]
      go_region_held3 (fun W => (((W.cell? ⟨g, h * 4, none⟩ = some (.string x.r) ∧ W.cell? ⟨g, h * 4 + 1, none⟩ = some (.bool x.o) ∧ W.cell? ⟨g, h * 4 + 2, none⟩ = some (.int .i64 x.p) ∧ W.cell? ⟨g, h * 4 + 3, none⟩ = some (.string x.s)) ∧
          (W.cell? ⟨w.heap.size, 0, none⟩ = some (.string r) ∧ W.cell? ⟨w.heap.size, 1, none⟩ = some (.bool o) ∧ W.cell? ⟨w.heap.size, 2, none⟩ = some (.int .i64 pp) ∧ W.cell? ⟨w.heap.size, 3, none⟩ = some (.string s))) ∧ (Below wr.heap.size wr W ∧ g < wr.heap.size ∧ w.heap.size < wr.heap.size)))
        (with_reducible first | assumption | exact elt_se_drew HS.out | exact elt_se_on (y := ⟨r, o, pp, s⟩) (by assumption) hbN)
        (first | (go_at_call 82; go_fit (i1 _); rintro e wn ⟨rfl, hbN⟩; have HF := Lib.hid (elt_se_on (g := g) (k := h) (y := ⟨r, o, pp, s⟩) (wr := wr) (by assumption) hbN)))
      have HB2 := Lib.hid (HB.out.trans (HF.out.2.1.mono HB.out.size))
      have HA2 := Lib.hid (arrS_on HA.out HF.out.2.1)
      have hcl : (decide (z < 0)) = Op.bytesLess x.r.toList r.toList := by
        rw [← HC.out]
        cases hb : Op.bytesLess x.r.toList r.toList
        · exact decide_eq_false (fun h => by have := cmp_neg.1 h; rw [hb] at this; cases this)
        · exact decide_eq_true (cmp_neg.2 hb)
      have HCL := Lib.hid hcl
      clear hcl
      by_cases hneg : z < 0
      · have hP : h < P := by
          rcases Nat.lt_or_ge h P with h1 | h1
          · exact h1
          · have := HHI.out h hltn h1
            rw [HX.out, ← HCL.out, decide_eq_true hneg] at this
            cases this
        go_wp2
        go_roundw
        case rel => exact ⟨h + 1, j, by omega, hj, hjn, by go_num, rfl, HA2.out, HB2.out⟩
        case measure => simp [intOf]; omega
      · have hP : P ≤ h := by
          rcases Nat.lt_or_ge h P with h1 | h1
          · have := HLO.out h hltn h1
            rw [HX.out, ← HCL.out, decide_eq_false hneg] at this
            cases this
          · exact h1
        go_wp2
        go_roundw
        case rel => exact ⟨i, h, hi, hP, by omega, rfl, rfl, HA2.out, HB2.out⟩
        case measure => simp [intOf]; omega
    · obtain rfl : i = P := by omega
      obtain rfl : j = i := by omega
      by_cases hin : j < n
      · have hltn : j < xs.length := by rw [HN.out]; exact hin
        obtain ⟨g, rfl, hg, a0, a1, a2, a3⟩ := row_se4 (HP.out _ hb) hltn
        have hZ := HH1.out hltn
        obtain ⟨x, hx⟩ : ∃ x, xs[j] = x := ⟨_, rfl⟩
        rw [hx] at a0 a1 a2 a3 hZ
        have HS : Hid (Elt_se g j w.heap.size x ⟨r, o, pp, s⟩ wr wr) := Lib.hid ⟨⟨⟨a0, a1, a2, a3⟩, d0, d1, d2, d3⟩, Below.refl _ _, hg, hzb⟩
        have i1 := fun W => cmp_res x ⟨r, o, pp, s⟩ W
        unfold seV at i1
        dsimp only at i1
        obtain ⟨z, hz⟩ : ∃ z, cmpI x.r r = z := ⟨_, rfl⟩
        have HZZ : Hid (Z = (z == 0)) := Lib.hid (by
          rw [hZ, ← hz]
          by_cases e : x.r.toList = r.toList
          · rw [cmp_zero.2 e, e]; simp
          · rw [beq_eq_false_iff_ne.2 e]
            symm
            rw [beq_eq_false_iff_ne]
            exact fun h => e (cmp_zero.1 h))
        rw [hz] at i1
        have q1 : (0 : Int) ≤ (j : Int) := by omega
        have q2 : (j : Int) < (n : Int) := by omega
        clear hb a0 a1 a2 a3 d0 d1 d2 d3 hx hg hz hA hZ
        go_wp2
        go_region_held3 (fun W => (((W.cell? ⟨g, j * 4, none⟩ = some (.string x.r) ∧ W.cell? ⟨g, j * 4 + 1, none⟩ = some (.bool x.o) ∧ W.cell? ⟨g, j * 4 + 2, none⟩ = some (.int .i64 x.p) ∧ W.cell? ⟨g, j * 4 + 3, none⟩ = some (.string x.s)) ∧
          (W.cell? ⟨w.heap.size, 0, none⟩ = some (.string r) ∧ W.cell? ⟨w.heap.size, 1, none⟩ = some (.bool o) ∧ W.cell? ⟨w.heap.size, 2, none⟩ = some (.int .i64 pp) ∧ W.cell? ⟨w.heap.size, 3, none⟩ = some (.string s))) ∧ (Below wr.heap.size wr W ∧ g < wr.heap.size ∧ w.heap.size < wr.heap.size)))
          (with_reducible first | assumption | exact elt_se_drew HS.out | exact elt_se_on (y := ⟨r, o, pp, s⟩) (by assumption) hbN)
          (first | (go_at_call 82; go_fit (i1 _); rintro e wn ⟨rfl, hbN⟩; have HF := Lib.hid (elt_se_on (g := g) (k := j) (y := ⟨r, o, pp, s⟩) (wr := wr) (by assumption) hbN)))
        go_wp2
        exact bodyPost_ret (v := .tuple #[.int .i64 (j : Int), .bool (z == 0)]) (by simp [results, Try.results102, go_sem]) rfl ⟨by rw [HZZ.out], HB.out.trans (HF.out.2.1.mono HB.out.size)⟩
      · have hZ := HH2.out (by rw [HN.out]; exact hin)
        subst hZ
        clear hb d0 d1 d2 d3 hA
        go_wp2
        refine wp_region_held_drew (S := fun W => Below w.heap.size w W) (by kernel_rfl) HB.out.drew (fun hHeld => ?_)
        generalize wr.drew = Wd at hHeld ⊢
        refine takeQ (i := 0) (k := 35) (v := .int .i64 (j : Int)) rfl (by rfl) (by kernel_rfl) (by kernel_rfl) (by kernel_rfl) (fun _ _ _ h => h) (by rfl) ?_ hHeld ?_
        · intro w1 hSw; go_simp
        (try simp only [Act.put, List.setIfInBounds_toArray, List.set_cons_zero, List.set_cons_succ])
        refine takeQ (i := 1) (k := 36) (v := .int .i64 (j : Int)) rfl (by rfl) (by kernel_rfl) (by kernel_rfl) (by kernel_rfl) (fun _ _ _ h => h) (by rfl) ?_ hHeld ?_
        · intro w1 hSw; go_simp
        (try simp only [Act.put, List.setIfInBounds_toArray, List.set_cons_zero, List.set_cons_succ])
        refine takeQ (i := 2) (k := 37) (v := .int .i64 (n : Int)) rfl (by rfl) (by kernel_rfl) (by kernel_rfl) (by kernel_rfl) (fun _ _ _ h => h) (by rfl) ?_ hHeld ?_
        · intro w1 hSw; go_simp
        (try simp only [Act.put, List.setIfInBounds_toArray, List.set_cons_zero, List.set_cons_succ])
        refine takeQ (i := 3) (k := 38) (v := .bool false) rfl (by rfl) (by kernel_rfl) (by kernel_rfl) (by kernel_rfl) (fun _ _ _ h => h) (by rfl) ?_ hHeld ?_
        · intro w1 hSw; go_simp
        (try simp only [Act.put, List.setIfInBounds_toArray, List.set_cons_zero, List.set_cons_succ])
        refine takeQ (i := 4) (k := 39) (v := .bool false) rfl (by rfl) (by kernel_rfl) (by kernel_rfl) (by kernel_rfl) (fun _ _ _ h => h) (by rfl) ?_ hHeld ?_
        · intro w1 hSw; go_simp
        (try simp only [Act.put, List.setIfInBounds_toArray, List.set_cons_zero, List.set_cons_succ])
        refine skipQ (i := 5) (k := 40) rfl (by rfl) (by kernel_rfl) (by kernel_rfl) (by kernel_rfl) (fun _ _ _ h => h) (by rfl) hHeld ?_
        (try simp only [Act.put, List.setIfInBounds_toArray, List.set_cons_zero, List.set_cons_succ])
        refine skipQ (i := 6) (k := 41) rfl (by rfl) (by kernel_rfl) (by kernel_rfl) (by kernel_rfl) (fun _ _ _ h => h) (by rfl) hHeld ?_
        (try simp only [Act.put, List.setIfInBounds_toArray, List.set_cons_zero, List.set_cons_succ])
        refine skipQ (i := 7) (k := 42) rfl (by rfl) (by kernel_rfl) (by kernel_rfl) (by kernel_rfl) (fun _ _ _ h => h) (by rfl) hHeld ?_
        (try simp only [Act.put, List.setIfInBounds_toArray, List.set_cons_zero, List.set_cons_succ])
        refine skipQ (i := 8) (k := 43) rfl (by rfl) (by kernel_rfl) (by kernel_rfl) (by kernel_rfl) (fun _ _ _ h => h) (by rfl) hHeld ?_
        (try simp only [Act.put, List.setIfInBounds_toArray, List.set_cons_zero, List.set_cons_succ])
        refine skipQ (i := 9) (k := 44) rfl (by rfl) (by kernel_rfl) (by kernel_rfl) (by kernel_rfl) (fun _ _ _ h => h) (by rfl) hHeld ?_
        (try simp only [Act.put, List.setIfInBounds_toArray, List.set_cons_zero, List.set_cons_succ])
        refine skipQ (i := 10) (k := 45) rfl (by rfl) (by kernel_rfl) (by kernel_rfl) (by kernel_rfl) (fun _ _ _ h => h) (by rfl) hHeld ?_
        (try simp only [Act.put, List.setIfInBounds_toArray, List.set_cons_zero, List.set_cons_succ])
        refine skipQ (i := 11) (k := 46) rfl (by rfl) (by kernel_rfl) (by kernel_rfl) (by kernel_rfl) (fun _ _ _ h => h) (by rfl) hHeld ?_
        (try simp only [Act.put, List.setIfInBounds_toArray, List.set_cons_zero, List.set_cons_succ])
        refine skipQ (i := 12) (k := 47) rfl (by rfl) (by kernel_rfl) (by kernel_rfl) (by kernel_rfl) (fun _ _ _ h => h) (by rfl) hHeld ?_
        (try simp only [Act.put, List.setIfInBounds_toArray, List.set_cons_zero, List.set_cons_succ])
        refine takeQ (i := 13) (k := 48) (v := .bool false) rfl (by rfl) (by kernel_rfl) (by kernel_rfl) (by kernel_rfl) (fun _ _ _ h => h) (by rfl) ?_ hHeld ?_
        · intro w1 hSw; go_simp
        (try simp only [Act.put, List.setIfInBounds_toArray, List.set_cons_zero, List.set_cons_succ])
        refine takeQ (i := 14) (k := 6) (v := .int .i64 (j : Int)) rfl (by rfl) (by kernel_rfl) (by kernel_rfl) (by kernel_rfl) (fun _ _ _ h => h) (by rfl) ?_ hHeld ?_
        · intro w1 hSw; go_simp
        (try simp only [Act.put, List.setIfInBounds_toArray, List.set_cons_zero, List.set_cons_succ])
        refine takeQ (i := 15) (k := 7) (v := .bool false) rfl (by rfl) (by kernel_rfl) (by kernel_rfl) (by kernel_rfl) (fun _ _ _ h => h) (by rfl) ?_ hHeld ?_
        · intro w1 hSw; go_simp
        (try simp only [Act.put, List.setIfInBounds_toArray, List.set_cons_zero, List.set_cons_succ])
        refine wpAnyH_done (by kernel_rfl) ?_ _
        go_wp2
        exact bodyPost_ret (v := .tuple #[.int .i64 (j : Int), .bool false]) (by simp [results, Try.results102, go_sem]) rfl ⟨rfl, hHeld⟩
/-- What impl.sessionAt answers: an index and a code. -/
noncomputable def atR (xs : List SeL) (r : ByteArray) : Int × Int :=
  if 400 < xs.length ∨ 20000 < r.size then (0, 2) else if okB xs = false then (0, 1) else if hereB r xs = false then (posS r xs, 6) else (posS r xs, 0)
set_option maxHeartbeats 2000000 in
theorem impl_at (xs : List SeL) (r : ByteArray) (p : Option Addr) (c : Nat) (w : World) (hn : xs.length ≤ 1048576) (hr : r.size ≤ 1048576) (hw : ∀ x ∈ xs, x.r.size ≤ maxLen) (hR : RowC seC 4 w p xs) :
    Calls Try.prog 64 #[.slice p xs.length c, .string r] w fun e w' => e = .returned (.tuple #[.int .i64 (atR xs r).1, .int .i64 (atR xs r).2]) ∧ Below w.heap.size w w' := by
  have i1 := impl_seright xs p c w hn hw hR
  have i2 := fun W (h : Below w.heap.size w W) (hk : okB xs = true) => impl_bsearch xs (newS r) p c W (okB_iff.1 hk).1 (okB_iff.1 hk).2.1 (hR.on h)
  unfold seV newS at i2
  dsimp only at i2
  obtain ⟨n, hxn⟩ : ∃ n, xs.length = n := ⟨_, rfl⟩
  have HN := Lib.hid hxn
  unfold atR
  rw [hxn] at hn i1 i2 ⊢
  clear hR hw hxn
  by_cases h1 : 400 < n
  · rw [if_pos (.inl h1)]
    go_enter Try.func64, Try.ntmps64
    go_wp2
    exact bodyPost_ret (v := .tuple #[.int .i64 0, .int .i64 2]) (by simp [results, Try.results64, go_sem]) rfl ⟨rfl, Below.refl _ _⟩
  by_cases h2 : 20000 < r.size
  · rw [if_pos (.inr h2)]
    go_enter Try.func64, Try.ntmps64
    go_wp2
    exact bodyPost_ret (v := .tuple #[.int .i64 0, .int .i64 2]) (by simp [results, Try.results64, go_sem]) rfl ⟨rfl, Below.refl _ _⟩
  rw [if_neg (by omega)]
  obtain ⟨b1, h3⟩ : ∃ b, okB xs = b := ⟨_, rfl⟩
  rw [h3] at i1 i2 ⊢
  obtain ⟨P, hP⟩ : ∃ P, posS r xs = P := ⟨_, rfl⟩
  obtain ⟨Z, hZ⟩ : ∃ Z, hereB r xs = Z := ⟨_, rfl⟩
  rw [hP, hZ] at i2 ⊢
  clear h3 hP hZ
  cases b1
  · rw [if_pos rfl]
    go_enter Try.func64, Try.ntmps64
    go_wp2_with (go_at_call 30; go_fit i1; rintro e w1 ⟨rfl, hb⟩)
    exact bodyPost_ret (v := .tuple #[.int .i64 0, .int .i64 1]) (by simp [results, Try.results64, go_sem]) rfl ⟨rfl, hb⟩
  · rw [if_neg (by decide)]
    replace i2 := fun W h => i2 W h rfl
    cases Z
    · rw [if_pos rfl]
      go_enter Try.func64, Try.ntmps64
      go_wp2_with (first
        | (go_at_call 30; go_fit i1; rintro e w1 ⟨rfl, hb⟩; have HB := Lib.hid hb; clear hb)
        | (go_at_call 102; go_fit (i2 _ HB.out); rintro e w2 ⟨rfl, hb2⟩))
      exact bodyPost_ret (v := .tuple #[.int .i64 (P : Int), .int .i64 6]) (by simp [results, Try.results64, go_sem]) rfl ⟨rfl, HB.out.trans (hb2.mono HB.out.size)⟩
    · rw [if_neg (by decide)]
      go_enter Try.func64, Try.ntmps64
      go_wp2_with (first
        | (go_at_call 30; go_fit i1; rintro e w1 ⟨rfl, hb⟩; have HB := Lib.hid hb; clear hb)
        | (go_at_call 102; go_fit (i2 _ HB.out); rintro e w2 ⟨rfl, hb2⟩))
      exact bodyPost_ret (v := .tuple #[.int .i64 (P : Int), .int .i64 0]) (by simp [results, Try.results64, go_sem]) rfl ⟨rfl, HB.out.trans (hb2.mono HB.out.size)⟩
end Go.Proofs.Ytafdjjdmcnlddaa

namespace Go.Proofs.Ytafdjjdmcnlddaa
set_option linter.unusedSimpArgs false
set_option linter.unusedVariables false
open Go.RowKit

/-- The bytes of some strings, one behind the other. -/
def flat (ss : List ByteArray) : List UInt8 := ss.flatMap (·.data.toList)
theorem flat_succ (ss : List ByteArray) (k : Nat) (h : k < ss.length) : flat (ss.take (k + 1)) = flat (ss.take k) ++ ss[k].data.toList := by
  unfold flat
  rw [List.take_succ_eq_append_getElem h, List.flatMap_append]
  simp only [List.flatMap_cons, List.flatMap_nil, List.append_nil]
theorem flat_take_le (ss : List ByteArray) (k : Nat) : (flat (ss.take k)).length ≤ (flat ss).length := by
  have e : flat ss = flat (ss.take k) ++ flat (ss.drop k) := by
    unfold flat
    rw [← List.flatMap_append, List.take_append_drop]
  rw [e]; simp
theorem size_data (s : ByteArray) : s.data.toList.length = s.size := by rw [Array.length_toList]; rfl
theorem info_u8j : (Try.prog.info? 5).map (fun i => (i.zero, i.size, i.bytes)) = some (some (.int .u8 0), 1, 1) := by kernel_rfl
theorem size_u8j : (Try.prog.info? 5).map (·.size) = some 1 := by kernel_rfl

theorem Heads.more {cs : List Value} {l m : List UInt8} (h : Heads cs l) : Heads (cs.take l.length ++ m.map byteV ++ cs.drop (l.length + m.length)) (l ++ m) := by
  unfold Heads at h ⊢
  rw [h, ← List.map_append]
  rw [show (l ++ m).length = ((l ++ m).map byteV).length by simp]
  exact List.take_left

theorem Arr.row {w : World} {b t : Nat} {cs : List Value} (h : Arr w b t cs) (l : List Value) : Arr (w.setRow b l.toArray) b t l := setRow_heap w b _ _ t _ h

/-- copy(buf[at:], s) where s fits. -/
theorem copy_part (w : World) (ty g at_ n : Nat) (cs : List Value) (s : ByteArray) (hA : Arr w g 5 cs) (hn : cs.length = n) (hfit : at_ + s.size ≤ n) :
    (Builtin.copy_ #[22, 9] ty #[.slice (some ⟨g, at_, none⟩) (n - at_) (n - at_), .string s]).run Try.prog w =
      .ok (.int .i64 (s.size : Int)) (w.setRow g (cs.take at_ ++ s.data.toList.map byteV ++ cs.drop (at_ + s.size)).toArray) := by
  have h := Lib.run_copy_row_string (P := Try.prog) w 22 9 ty 5 g at_ (n - at_) (n - at_) s cs.toArray 5 Try.underlying22 size_u8j hA (by omega) (by simpa using by omega)
  have e : Lib.byteCells s.data.toList = s.data.toList.map byteV := rfl
  rw [e] at h
  exact h
theorem copy_none (w : World) (ty : Nat) (d : Option Addr) (l c : Nat) (s : ByteArray) (h0 : s.size = 0) :
    (Builtin.copy_ #[22, 9] ty #[.slice d l c, .string s]).run Try.prog w = .ok (.int .i64 0) w :=
  Lib.run_copy_empty_string (P := Try.prog) w 22 9 ty 5 d l c s Try.underlying22 (by rw [size_u8j]; rfl) h0

set_option maxRecDepth 100000 in
set_option maxHeartbeats 800000 in
theorem impl_joined (b c : Nat) (ss : List ByteArray) (w : World) (hb : b < w.heap.size) (hc : ∀ j (h : j < ss.length), w.cell? ⟨b, j, none⟩ = some (.string ss[j])) (hlen : ss.length ≤ 1000000)
    (htot : (flat ss).length ≤ 1099511627776) :
    Calls Try.prog 68 #[.slice (some ⟨b, 0, none⟩) ss.length c] w fun e w' => e = .returned (.string (strOf (flat ss))) ∧ Below w.heap.size w w' := by
  obtain ⟨i0, hi, hz0, hz1, hz2⟩ := info_parts info_u8j
  have HC := Lib.hid hc
  clear hc
  go_enter Try.func68, Try.ntmps68
  go_wp2
  go_loop [3, 12] (fun s i => ∃ k : Nat, k ≤ ss.length ∧ i = .int .i64 k ∧ s = .int .i64 ((flat (ss.take k)).length : Int)) (fun _ i => ss.length - (intOf i).toNat)
  case atStart => exact ⟨0, Nat.zero_le _, rfl, rfl⟩
  case round =>
    obtain ⟨k, hk, rfl, rfl⟩ := hrel
    by_cases hlt : k < ss.length
    · have hcell := HC.out k hlt
      have hs := flat_succ ss k hlt
      have hle := flat_take_le ss (k + 1)
      have hle2 : (flat (ss.take k)).length + ss[k].size ≤ (flat ss).length := by rw [hs, List.length_append, size_data] at hle; exact hle
      have HS := Lib.hid hs
      clear hs hle
      go_wp2
      go_round
      case rel => exact ⟨k + 1, by omega, by go_num, by rw [HS.out, List.length_append, size_data]; go_num⟩
      case measure => simp [intOf]; omega
    · have hk' : k = ss.length := by omega
      subst hk'
      clear hlt hk
      rw [List.take_length]
      obtain ⟨n, hn⟩ : ∃ n, n = (flat ss).length := ⟨_, rfl⟩
      rw [← hn] at htot ⊢
      have HN := Lib.hid hn
      clear hn
      have hmk : ∀ u : World, (Instr.makeSlice 22 (.int .i64 (n : Int)) (.int .i64 (n : Int))).run Try.prog u =
          .ok (.slice (some ⟨u.heap.size, 0, none⟩) n n) (u.alloc (.cells (madeCells #[.int .u8 0] n) 5)) := fun u => by
        have h := run_make (P := Try.prog) u 22 5 i0 (.int .u8 0) Try.underlying22 hi hz0 .i64 .i64 (n : Int) (n : Int) (by omega) (Int.le_refl _) (by rw [hz2]; omega) (by omega)
        simpa [hz1, Value.cells] using h
      go_wp2
      have hsize : w.heap.size < (w.alloc (.cells (madeCells #[.int .u8 0] n) 5)).heap.size := by simp
      have hA0 : Arr (w.alloc (.cells (madeCells #[.int .u8 0] n) 5)) w.heap.size 5 (madeCells #[.int .u8 0] n).toList := heap_alloc_new w _
      go_loopw [7, 25] (fun s i wr => ∃ (k : Nat) (cs : List Value), k ≤ ss.length ∧ i = .int .i64 k ∧ s = .int .i64 ((flat (ss.take k)).length : Int) ∧ Arr wr w.heap.size 5 cs ∧ cs.length = n ∧ Heads cs (flat (ss.take k)) ∧ Below w.heap.size w wr) (fun _ i _ => ss.length - (intOf i).toNat)
      case atStart => exact ⟨0, _, Nat.zero_le _, rfl, rfl, hA0, by simp [size_madeCells], rfl, (Below.refl _ _).alloc (Nat.le_refl _) _⟩
      case round =>
        clear hA0 hsize hmk
        obtain ⟨k, cs, hk, rfl, rfl, hA, hcs, hH, hbel⟩ := hrel
        by_cases hlt : k < ss.length
        · have hcell := (hbel.cell (p := ⟨b, k, none⟩) hb).trans (HC.out k hlt)
          have hs := flat_succ ss k hlt
          have hle := flat_take_le ss (k + 1)
          rw [hs, List.length_append, size_data, ← HN.out] at hle
          have HS := Lib.hid hs
          have HA := Lib.hid hA
          have HH := Lib.hid hH
          have HCS := Lib.hid hcs
          clear hs hA hH hcs
          obtain ⟨m, hm⟩ : ∃ m, m = (flat (ss.take k)).length := ⟨_, rfl⟩
          rw [← hm] at hle ⊢
          have HM := Lib.hid hm
          clear hm
          by_cases h0 : ss[k].size = 0
          · have hcp := fun ty d l c => copy_none wr ty d l c ss[k] h0
            have H0 := Lib.hid h0
            clear h0
            have HF : Hid (flat (ss.take (k + 1)) = flat (ss.take k)) := Lib.hid (by
              rw [HS.out, List.eq_nil_of_length_eq_zero ((size_data _).trans H0.out), List.append_nil])
            go_wp2
            go_roundw
            case rel => exact ⟨k + 1, cs, by omega, by go_num, by rw [HF.out, ← HM.out], HA.out, HCS.out, by rw [HF.out]; exact HH.out, hbel⟩
            case measure => simp [intOf]; omega
          · have hcp := fun ty => copy_part wr ty w.heap.size m n cs ss[k] HA.out HCS.out (by omega)
            have hmn : m < n := by omega
            go_wp2
            go_roundw
            case rel =>
              have hR := HH.out.more (m := ss[k].data.toList)
              rw [← HS.out, ← HM.out, size_data, List.append_assoc] at hR
              refine ⟨k + 1, _, by omega, by go_num, by rw [HS.out, List.length_append, size_data, ← HM.out]; go_num, Arr.row HA.out _, ?_, hR, below_setRow hbel (Nat.le_refl _) _⟩
              have := HCS.out
              simp [size_data]
              omega
            case measure => simp [intOf]; omega
        · have hk' : k = ss.length := by omega
          subst hk'
          rw [List.take_length] at hH
          have hcv := run_string_arr (P := Try.prog) wr 22 9 5 _ _ n n _ _ hA hH HN.out Try.underlying22 Try.underlying5 Try.underlying9
          clear hA hH hcs
          go_wp2
          go_ret
          exact ⟨rfl, hbel⟩
theorem flat_one (a : ByteArray) : flat [a] = a.data.toList := by simp [flat]
end Go.Proofs.Ytafdjjdmcnlddaa

namespace Go.Proofs.Ytafdjjdmcnlddaa
set_option linter.unusedSimpArgs false
set_option linter.unusedVariables false
open Go.RowKit Go.Joins

theorem joined_one9 (s : ByteArray) (w : World) (hs : s.size ≤ 2000000) :
    Calls Try.prog 68 #[.slice (some ⟨w.heap.size, 0, none⟩) 1 1] (w.alloc (.cells #[.string s] 9)) fun e w' => e = .returned (.string s) ∧ Below w.heap.size w w' := by
  have h := impl_joined w.heap.size 1 [s] (w.alloc (.cells #[.string s] 9)) (by simp) (fun j hj => by
    have hj0 : j = 0 := by simp at hj; omega
    subst hj0
    exact (Arr.fresh w 9 [.string s]).cell 0) (by simp) (by rw [flat_one, size_data]; omega)
  rw [flat_one] at h
  exact h.mono fun e w' ⟨he, hb⟩ => ⟨by rw [he]; rfl, below_one hb⟩
theorem joined_at9 (s : ByteArray) (w : World) (hs : s.size ≤ 2000000) (b : Nat) (hb : w.heap.size = b) :
    Calls Try.prog 68 #[.slice (some ⟨b, 0, none⟩) 1 1] (w.alloc (.cells #[.string s] 9)) fun e w' => e = .returned (.string s) ∧ Below w.heap.size w w' := by
  subst hb
  exact joined_one9 s w hs
theorem arr9_on {w w1 : World} {b t : Nat} {cs : List Value} (h : Arr w b t cs) (hb : Below w.heap.size w w1) : Arr w1 b t cs := (hb.block b (Array.getElem?_eq_some_iff.1 h).1).trans h
theorem arr9_cells {w : World} {b t : Nat} {a0 a1 a2 a3 : Value} (h : Arr w b t [a0, a1, a2, a3]) : (w.cell? ⟨b, 0, none⟩ = some a0 ∧ w.cell? ⟨b, 1, none⟩ = some a1 ∧ w.cell? ⟨b, 2, none⟩ = some a2 ∧ w.cell? ⟨b, 3, none⟩ = some a3) ∧
    w.frozen? ⟨b, 0, none⟩ = false ∧ w.frozen? ⟨b, 1, none⟩ = false ∧ w.frozen? ⟨b, 2, none⟩ = false ∧ w.frozen? ⟨b, 3, none⟩ = false := ⟨⟨h.cell 0, h.cell 1, h.cell 2, h.cell 3⟩, h.free 0, h.free 1, h.free 2, h.free 3⟩
/-- The two boxes of sessionCopy. -/
def Cp9 (w W : World) (x : SeL) : Prop := Arr W w.heap.size 84 [.string x.r, .bool x.o, .int .i64 x.p, .string x.s] ∧ Arr W (w.heap.size + 1) 84 [.string ⟨#[]⟩, .bool false, .int .i64 0, .string ⟨#[]⟩] ∧ Below w.heap.size w W
theorem Cp9.on {w W W2 : World} {x : SeL} (h : Cp9 w W x) (hb : Below W.heap.size W W2) : Cp9 w W2 x := ⟨arr9_on h.1 hb, arr9_on h.2.1 hb, h.2.2.trans (hb.mono h.2.2.size)⟩
theorem cp9_start (w : World) (x : SeL) : Cp9 w ((w.alloc (.cells #[.string x.r, .bool x.o, .int .i64 x.p, .string x.s] 84)).alloc (.cells #[.string ⟨#[]⟩, .bool false, .int .i64 0, .string ⟨#[]⟩] 84)) x := by
  have h2 := Arr.fresh (w.alloc (.cells #[.string x.r, .bool x.o, .int .i64 x.p, .string x.s] 84)) 84 [.string ⟨#[]⟩, .bool false, .int .i64 0, .string ⟨#[]⟩]
  rw [World.size_alloc] at h2
  exact ⟨arr9_on (Arr.fresh w 84 [.string x.r, .bool x.o, .int .i64 x.p, .string x.s]) ((Below.refl _ _).alloc (Nat.le_refl _) _), h2, ((Below.refl _ _).alloc (Nat.le_refl _) _).alloc (by simp) _⟩
theorem Cp9.put0 {w W : World} {x : SeL} (h : Cp9 w W x) : Cp9 w (W.setCell ⟨w.heap.size, 0, none⟩ (.string x.r)) x :=
  ⟨h.1.put 0 _, (heap_setCell_other W ⟨w.heap.size, 0, none⟩ (w.heap.size + 1) _ (by show w.heap.size + 1 ≠ w.heap.size; omega)).trans h.2.1, h.2.2.setCell (p := ⟨w.heap.size, 0, none⟩) (Nat.le_refl _) _⟩
theorem Cp9.put3 {w W : World} {x : SeL} (h : Cp9 w W x) : Cp9 w (W.setCell ⟨w.heap.size, 3, none⟩ (.string x.s)) x :=
  ⟨h.1.put 3 _, (heap_setCell_other W ⟨w.heap.size, 3, none⟩ (w.heap.size + 1) _ (by show w.heap.size + 1 ≠ w.heap.size; omega)).trans h.2.1, h.2.2.setCell (p := ⟨w.heap.size, 3, none⟩) (Nat.le_refl _) _⟩
set_option maxRecDepth 100000 in
set_option maxHeartbeats 1000000 in
theorem impl_secopy (x : SeL) (w : World) (hr : x.r.size ≤ 1048576) (hs : x.s.size ≤ 1048576) : Calls Try.prog 107 #[seV x] w fun e w' => e = .returned (seV x) ∧ Below w.heap.size w w' := by
  have HS := Lib.hid (cp9_start w x)
  have i1 := fun W => joined_at9 x.r W (by omega)
  have i2 := fun W => joined_at9 x.s W (by omega)
  unfold seV
  clear hr hs
  go_enter Try.func107, Try.ntmps107
  go_wp2_with (first
    | (go_at_call 68; have _ := HS1; go_fit (i2 _ _ (by simp)); rintro e w2 ⟨rfl, hb⟩; have HS2 := Lib.hid (HS1.out.put0.on hb); clear hb; obtain ⟨⟨c0, c1, c2, c3⟩, f0, f1, f2, f3⟩ := arr9_cells HS2.out.1; obtain ⟨⟨d0, d1, d2, d3⟩, e0, e1, e2, e3⟩ := arr9_cells HS2.out.2.1)
    | (go_at_call 68; go_fit (i1 _ _ (by simp)); rintro e w1 ⟨rfl, hb⟩; have HS1 := Lib.hid (HS.out.on hb); clear hb; obtain ⟨⟨c0, c1, c2, c3⟩, f0, f1, f2, f3⟩ := arr9_cells HS1.out.1))
  have hE : Arr _ (w.heap.size + 1) 84 [.string x.r, .bool x.o, .int .i64 x.p, .string x.s] := (((HS2.out.put3.2.1.put 0 (.string x.r)).put 1 (.bool x.o)).put 2 (.int .i64 x.p)).put 3 (.string x.s)
  exact bodyPost_ret (v := .agg #[.string x.r, .bool x.o, .int .i64 x.p, .string x.s]) (results_cell_row (P := Try.prog) Try.results107 _ _ (w.heap.size + 1) 84 _ (0, 0) _ rfl hE Try.underlying84 rfl (by kernel_rfl)) rfl
    ⟨rfl, (((HS2.out.put3.2.2.setCell (p := ⟨w.heap.size + 1, 0, none⟩) (Nat.le_succ _) _).setCell (p := ⟨w.heap.size + 1, 1, none⟩) (Nat.le_succ _) _).setCell (p := ⟨w.heap.size + 1, 2, none⟩) (Nat.le_succ _) _).setCell (p := ⟨w.heap.size + 1, 3, none⟩) (Nat.le_succ _) _⟩
theorem info_sec : (Try.prog.info? 84).map (fun i => (i.zero, i.size, i.bytes)) = some (some (.agg #[.string ⟨#[]⟩, .bool false, .int .i64 0, .string ⟨#[]⟩]), 4, 48) := by kernel_rfl
/-- append(v, y) within the capacity. -/
theorem app_fitS (w : World) {ops : Array Oper} {rest : List Oper} {o : Oper} {a : Act} {Q : Exit → Act → World → Prop} (hgd : o.guard = none) (s x : Operand)
    (ho : o.op = Op.call { callee := Callee.builtin Builtin.append, args := #[s, x], argTypes := #[23, 23] })
    (B g k cap : Nat) (xs : List SeL) (hs : a.eval s = .slice (some ⟨g, 0, none⟩) k cap) (hown : OwnC seC w B 84 4 (.slice (some ⟨g, 0, none⟩) k cap) xs) (hk : xs.length = k) (b : Nat) (y : SeL) (hx : a.eval x = .slice (some ⟨b, 0, none⟩) 1 1) (hA : Arr w b 84 (seC y)) (hfit : k + 1 ≤ cap)
    (h : ∀ w', OwnC seC w' B 84 4 (.slice (some ⟨g, 0, none⟩) (k + 1) cap) (xs ++ [y]) → w.grownBy w' (some g) → wpList Try.prog ops Q rest (a.put o.dst (.slice (some ⟨g, 0, none⟩) (k + 1) cap)) w') : wpList Try.prog ops Q (o :: rest) a w := by
  obtain ⟨i0, hi, hz0, hz1, hz2⟩ := info_parts info_sec
  subst hk
  refine wpList_append_fits w hgd s x 23 ho B 84 i0 4 Try.underlying23 hi hz1 g xs.length cap (xs.flatMap seC) hs hown ⟨b, 0, none⟩ 1 1 (seC y) hx (by rw [seC_len]) (fun j u hj => ?_) (seC_one y) hfit (fun w' h1 h2 => h w' ?_ h2)
  · rw [show (⟨b, 0, none⟩ : Addr).add j = ⟨b, j, none⟩ by unfold Addr.add; split <;> simp_all, hA.cell]
    exact hj
  · unfold OwnC
    rw [List.length_append, List.flatMap_append]
    simpa using h1
set_option maxRecDepth 100000 in
set_option maxHeartbeats 1000000 in
theorem impl_sescopy (xs : List SeL) (p : Option Addr) (c : Nat) (w : World) (hn : xs.length ≤ 1048576) (hw : ∀ x ∈ xs, x.r.size ≤ 1048576 ∧ x.s.size ≤ 1048576) (hR : RowC seC 4 w p xs) :
    Calls Try.prog 67 #[.slice p xs.length c] w fun e w' => (e = .returned (.slice (some ⟨w.heap.size, 0, none⟩) xs.length xs.length) ∧ OwnC seC w' w.heap.size 84 4 (.slice (some ⟨w.heap.size, 0, none⟩) xs.length xs.length) xs) ∧ Below w.heap.size w w' := by
  obtain ⟨n, hxn⟩ : ∃ n, xs.length = n := ⟨_, rfl⟩
  have HP := Lib.hid (fun W (h : Below w.heap.size w W) => hR.on h)
  have HW := Lib.hid hw
  have HN := Lib.hid hxn
  rw [hxn] at hn ⊢
  clear hR hw hxn
  obtain ⟨i0, hi, hz0, hz1, hz2⟩ := info_parts info_sec
  go_enter Try.func67, Try.ntmps67
  go_wp2_with (refine wpList_make_own _ rfl _ _ 23 rfl w.heap.size 84 i0 _ 4 Try.underlying23 hi hz0 hz1 .i64 .i64 _ n rfl rfl rfl (by rw [hz2]; omega) (by unfold maxLen; omega) (Nat.le_refl _) ?_; intro w1 ho1 hg1)
  have HV1 : Hid (OwnC seC w1 w.heap.size 84 4 (.slice (some ⟨w.heap.size, 0, none⟩) 0 n) []) := Lib.hid ho1
  have HB1 : Hid (Below w.heap.size w w1) := Lib.hid ((Below.refl _ _).grown hg1 (Nat.le_refl _) (fun k hk => by cases hk))
  clear ho1 hg1
  go_loopw [3, 10] (fun sq iq wr => ∃ k : Nat, k ≤ n ∧ iq = .int .i64 k ∧ sq = .slice (some ⟨w.heap.size, 0, none⟩) k n ∧ OwnC seC wr w.heap.size 84 4 (.slice (some ⟨w.heap.size, 0, none⟩) k n) (xs.take k) ∧ Below w.heap.size w wr) (fun _ i _ => n - (intOf i).toNat)
  case atStart => exact ⟨0, Nat.zero_le _, rfl, rfl, HV1.out, HB1.out⟩
  case round =>
    obtain ⟨k, hk, rfl, rfl, hv, hb⟩ := hrel
    have HV := Lib.hid hv
    have HB := Lib.hid hb
    clear hv
    by_cases hlt : k < n
    · have hlt1 : k < xs.length := by rw [HN.out]; exact hlt
      obtain ⟨g, rfl, hg, a0, a1, a2, a3⟩ := row_se4 (HP.out _ hb) hlt1
      have hxw := HW.out _ (List.getElem_mem hlt1)
      obtain ⟨x, hx⟩ : ∃ x, xs[k] = x := ⟨_, rfl⟩
      rw [hx] at a0 a1 a2 a3 hxw
      have i3 := fun W => impl_secopy x W hxw.1 hxw.2
      unfold seV at i3
      have HT : Hid (xs.take (k + 1) = xs.take k ++ [x]) := Lib.hid (by rw [List.take_succ_eq_append_getElem hlt1, hx])
      have HL : Hid ((xs.take k).length = k) := Lib.hid (by rw [List.length_take]; omega)
      clear hb hx hxw
      go_wp2_with (first
        | (at_builtin; have _ := HV2; refine app_fitS _ rfl _ _ rfl w.heap.size w.heap.size k n _ rfl (HV2.out.alloc _) HL.out w2.heap.size x rfl (Arr.fresh w2 84 (seC x)) (by omega) ?_; intro w3 hv3 hg3; have HV3 := Lib.hid hv3; have HG3 := Lib.hid hg3; clear hv3 hg3)
        | (go_at_call 107; go_fit (i3 _); rintro e w2 ⟨rfl, hb2⟩; have HV2 := Lib.hid (HV.out.on hb2); have HB2 := Lib.hid (HB.out.trans (hb2.mono HB.out.size)); clear hb2))
      go_roundw
      case rel => exact ⟨k + 1, by omega, by go_num, rfl, by rw [HT.out]; exact HV3.out, (HB2.out.alloc HB2.out.size _).grown HG3.out (HB2.out.alloc HB2.out.size _).size (fun k hk => by injection hk with hk; omega)⟩
      case measure => simp [intOf]; omega
    · obtain rfl : k = n := by omega
      have HT : Hid (xs.take k = xs) := Lib.hid (List.take_of_length_le (by rw [HN.out]; exact Nat.le_refl _))
      clear hb
      go_wp2
      go_ret
      exact ⟨⟨rfl, by have := HV.out; rw [HT.out] at this; exact this⟩, HB.out⟩
end Go.Proofs.Ytafdjjdmcnlddaa

namespace Go.Proofs.Ytafdjjdmcnlddaa
set_option linter.unusedSimpArgs false
set_option linter.unusedVariables false
open Go.RowKit Go.Joins

/-- The answer R, in memory of the call's own. -/
def SoIs (B : Nat) (R : SoL) (e : Ending) (W : World) : Prop := ∃ p k, e = .returned (.agg #[.slice p R.l.length k, .int .i64 R.c]) ∧ OwnC seC W B 84 4 (.slice p R.l.length k) R.l
theorem so_ill (B : Nat) (c : Int) (W : World) : SoIs B (illS c) (.returned (.agg #[.slice none 0 0, .int .i64 c])) W := ⟨none, 0, rfl, ownC_nil _ _ _ _ _⟩
theorem at_bad {xs : List SeL} {y : SeL} (h : (atR xs y.r).2 ≠ 0) : withR xs y = illS (atR xs y.r).2 := by
  unfold atR at h ⊢
  unfold withR
  split
  · rfl
  · rename_i h1
    rw [if_neg h1] at h
    split
    · rfl
    · rename_i h2
      rw [if_neg h2] at h
      split
      · rfl
      · rename_i h3
        rw [if_neg h3] at h
        exact absurd rfl h
theorem at_ok {xs : List SeL} {r : ByteArray} (h : (atR xs r).2 = 0) : ¬ (400 < xs.length ∨ 20000 < r.size) ∧ okB xs = true ∧ hereB r xs = true ∧ (atR xs r).1 = (posS r xs : Int) := by
  unfold atR at h ⊢
  by_cases h1 : 400 < xs.length ∨ 20000 < r.size
  · rw [if_pos h1] at h; exact absurd h (by decide)
  rw [if_neg h1] at h ⊢
  by_cases h2 : okB xs = false
  · rw [if_pos h2] at h; exact absurd h (by decide)
  rw [if_neg h2] at h ⊢
  by_cases h3 : hereB r xs = false
  · rw [if_pos h3] at h; exact absurd (show (6 : Int) = 0 from h) (by decide)
  rw [if_neg h3]
  exact ⟨h1, by simpa using h2, by simpa using h3, rfl⟩
theorem here_lt {xs : List SeL} {r : ByteArray} (h : hereB r xs = true) : posS r xs < xs.length := by
  rcases Nat.lt_or_ge (posS r xs) xs.length with h1 | h1
  · exact h1
  · rw [here_end (by omega)] at h; cases h
theorem with_ok {xs : List SeL} {y : SeL} (h1 : ¬ (400 < xs.length ∨ 20000 < y.r.size)) (h2 : okB xs = true) (h3 : hereB y.r xs = true) : withR xs y = if seB y = false then illS 1 else ⟨xs.set (posS y.r xs) y, 0⟩ := by
  unfold withR
  rw [if_neg h1, if_neg (by rw [h2]; decide), if_neg (by rw [h3]; decide)]
/-- The boxes of withSession. -/
def Wt9 (w W : World) (y : SeL) : Prop := Arr W w.heap.size 84 [.string y.r, .bool y.o, .int .i64 y.p, .string y.s] ∧ Arr W (w.heap.size + 1) 27 [.slice none 0 0, .int .i64 0] ∧ Below w.heap.size w W
theorem Wt9.on {w W W2 : World} {y : SeL} (h : Wt9 w W y) (hb : Below W.heap.size W W2) : Wt9 w W2 y := ⟨arr9_on h.1 hb, arr9_on h.2.1 hb, h.2.2.trans (hb.mono h.2.2.size)⟩
theorem wt9_start (w : World) (y : SeL) : Wt9 w ((w.alloc (.cells #[.string y.r, .bool y.o, .int .i64 y.p, .string y.s] 84)).alloc (.cells #[.slice none 0 0, .int .i64 0] 27)) y := by
  have h2 := Arr.fresh (w.alloc (.cells #[.string y.r, .bool y.o, .int .i64 y.p, .string y.s] 84)) 27 [.slice none 0 0, .int .i64 0]
  rw [World.size_alloc] at h2
  exact ⟨arr9_on (Arr.fresh w 84 [.string y.r, .bool y.o, .int .i64 y.p, .string y.s]) ((Below.refl _ _).alloc (Nat.le_refl _) _), h2, ((Below.refl _ _).alloc (Nat.le_refl _) _).alloc (by simp) _⟩
theorem arr9_two {w : World} {b t : Nat} {a0 a1 : Value} (h : Arr w b t [a0, a1]) : (w.cell? ⟨b, 0, none⟩ = some a0 ∧ w.cell? ⟨b, 1, none⟩ = some a1) ∧ w.frozen? ⟨b, 0, none⟩ = false ∧ w.frozen? ⟨b, 1, none⟩ = false := ⟨⟨h.cell 0, h.cell 1⟩, h.free 0, h.free 1⟩
theorem arr9_lt {w : World} {b t : Nat} {cs : List Value} (h : Arr w b t cs) : b < w.heap.size := (Array.getElem?_eq_some_iff.1 h).1
theorem flat_set9 {u : Value} {y : SeL} : ∀ (xs : List SeL) (i j : Nat) (hi : i < xs.length), j < 4 → seC y = (seC xs[i]).set j u → (xs.set i y).flatMap seC = (xs.flatMap seC).set (i * 4 + j) u
  | x :: xs, 0, j, hi, hj, h => by
    rw [List.set_cons_zero, List.flatMap_cons, List.flatMap_cons, Nat.zero_mul, Nat.zero_add, List.set_append_left _ _ (by rw [seC_len]; exact hj)]
    rw [show seC y = (seC x).set j u from h]
  | x :: xs, i + 1, j, hi, hj, h => by
    rw [List.set_cons_succ, List.flatMap_cons, List.flatMap_cons, List.set_append_right _ _ (by rw [seC_len, Nat.add_mul, Nat.one_mul]; omega), seC_len, show (i + 1) * 4 + j - 4 = i * 4 + j by rw [Nat.add_mul, Nat.one_mul]; omega]
    rw [flat_set9 xs i j (by simpa using hi) hj (by simpa using h)]
theorem own_set9 {w : World} {B e g n c : Nat} {xs : List SeL} (h : OwnC seC w B e 4 (.slice (some ⟨g, 0, none⟩) n c) xs) (i j : Nat) (hi : i < xs.length) (hj : j < 4) {u : Value} {y : SeL} (hy : seC y = (seC xs[i]).set j u) :
    OwnC seC (w.setCell ⟨g, i * 4 + j, none⟩ u) B e 4 (.slice (some ⟨g, 0, none⟩) n c) (xs.set i y) := by
  refine ⟨by rw [List.length_set, flat_set9 xs i j hi hj hy, List.length_set]; exact h.1, ?_⟩
  rcases h.2 with ⟨h0, _⟩ | ⟨g', c', cur, h1, h2, h3, h4, h5, h6, h7⟩
  · cases h0
  · injection h1 with e1 e2 e3
    injection e1 with e1
    injection e1 with e1
    subst e1 e3
    have hA : Arr w g e cur.toList := by unfold Arr; simpa using h3
    have hA2 := hA.put (i * 4 + j) u
    refine .inr ⟨g, c, (cur.toList.set (i * 4 + j) u).toArray, by rw [List.length_set, ← e2], h2, hA2, by rw [List.length_set]; exact h4, h5, by simpa using h6, ?_⟩
    rw [List.length_set, flat_set9 xs i j hi hj hy, ← h7, List.take_set]
/-- An element is stored. -/
def put9 (W : World) (g i : Nat) (y : SeL) : World := (((W.setCell ⟨g, i * 4, none⟩ (.string y.r)).setCell ⟨g, i * 4 + 1, none⟩ (.bool y.o)).setCell ⟨g, i * 4 + 2, none⟩ (.int .i64 y.p)).setCell ⟨g, i * 4 + 3, none⟩ (.string y.s)
theorem own_put9 {w : World} {B e g n c : Nat} {xs : List SeL} (h : OwnC seC w B e 4 (.slice (some ⟨g, 0, none⟩) n c) xs) (i : Nat) (hi : i < xs.length) (y : SeL) : OwnC seC (put9 w g i y) B e 4 (.slice (some ⟨g, 0, none⟩) n c) (xs.set i y) := by
  have h1 := own_set9 h i 0 hi (by decide) (u := .string y.r) (y := ⟨y.r, xs[i].o, xs[i].p, xs[i].s⟩) rfl
  have h2 := own_set9 h1 i 1 (by rw [List.length_set]; exact hi) (by decide) (u := .bool y.o) (y := ⟨y.r, y.o, xs[i].p, xs[i].s⟩) (by rw [List.getElem_set_self]; rfl)
  rw [List.set_set] at h2
  have h3 := own_set9 h2 i 2 (by rw [List.length_set]; exact hi) (by decide) (u := .int .i64 y.p) (y := ⟨y.r, y.o, y.p, xs[i].s⟩) (by rw [List.getElem_set_self]; rfl)
  rw [List.set_set] at h3
  have h4 := own_set9 h3 i 3 (by rw [List.length_set]; exact hi) (by decide) (u := .string y.s) (y := y) (by rw [List.getElem_set_self]; rfl)
  rw [List.set_set] at h4
  exact h4
theorem own_free9 {w : World} {B e g n c : Nat} {xs : List SeL} (h : OwnC seC w B e 4 (.slice (some ⟨g, 0, none⟩) n c) xs) (i : Nat) (hi : i < xs.length) :
    (w.cell? ⟨g, i * 4, none⟩ = some (.string xs[i].r) ∧ w.cell? ⟨g, i * 4 + 1, none⟩ = some (.bool xs[i].o) ∧ w.cell? ⟨g, i * 4 + 2, none⟩ = some (.int .i64 xs[i].p) ∧ w.cell? ⟨g, i * 4 + 3, none⟩ = some (.string xs[i].s)) ∧
    w.frozen? ⟨g, i * 4, none⟩ = false ∧ w.frozen? ⟨g, i * 4 + 1, none⟩ = false ∧ w.frozen? ⟨g, i * 4 + 2, none⟩ = false ∧ w.frozen? ⟨g, i * 4 + 3, none⟩ = false := by
  have hn : n = xs.length := by
    rcases h.2 with ⟨h0, _⟩ | ⟨g', cap', cur, h1, _⟩
    · cases h0
    · injection h1 with _ h2 _
  subst hn
  have h' : w.ownsRow B e 4 (.slice (some ⟨g, 0, none⟩) xs.length c) xs.length (xs.flatMap seC) := h
  exact ⟨⟨OwnC.cell seC_len h i 0 hi (by decide), OwnC.cell seC_len h i 1 hi (by decide), OwnC.cell seC_len h i 2 hi (by decide), OwnC.cell seC_len h i 3 hi (by decide)⟩, h'.frozenAt _, h'.frozenAt _, h'.frozenAt _, h'.frozenAt _⟩
theorem Wt9.put {w W : World} {y : SeL} (h : Wt9 w W y) {g : Nat} (hg : w.heap.size + 2 ≤ g) (i : Nat) (z : SeL) : Wt9 w (put9 W g i z) y := by
  have one : ∀ (W : World) (j : Nat) (u : Value), Wt9 w W y → Wt9 w (W.setCell ⟨g, j, none⟩ u) y := fun W j u h =>
    ⟨(heap_setCell_other W ⟨g, j, none⟩ w.heap.size u (by show w.heap.size ≠ g; omega)).trans h.1, (heap_setCell_other W ⟨g, j, none⟩ (w.heap.size + 1) u (by show w.heap.size + 1 ≠ g; omega)).trans h.2.1, h.2.2.setCell (p := ⟨g, j, none⟩) (by show w.heap.size ≤ g; omega) _⟩
  exact one _ _ _ (one _ _ _ (one _ _ _ (one _ _ _ h)))
set_option maxRecDepth 100000 in
set_option maxHeartbeats 2000000 in
theorem impl_with (xs : List SeL) (y : SeL) (p : Option Addr) (c : Nat) (w : World) (hn : xs.length ≤ 1048576) (hr : y.r.size ≤ 1048576) (hs : y.s.size ≤ 1048576) (hw : ∀ x ∈ xs, x.r.size ≤ 1048576 ∧ x.s.size ≤ 1048576) (hR : RowC seC 4 w p xs) :
    Calls Try.prog 70 #[.slice p xs.length c, seV y] w fun e w' => SoIs w.heap.size (withR xs y) e w' ∧ Below w.heap.size w w' := by
  have HR := Lib.hid (fun W (h : Below w.heap.size w W) => hR.on h)
  have i1 := fun W h => impl_at xs y.r p c W hn hr (fun x hx => by have := (hw x hx).1; unfold maxLen; omega) h
  have i2 := fun W => impl_se y W (by unfold maxLen; omega)
  have i3 := fun W h => impl_sescopy xs p c W hn hw h
  have i4 := fun W => impl_secopy y W hr hs
  have HS := Lib.hid (wt9_start w y)
  obtain ⟨K, hK⟩ : ∃ K, (atR xs y.r).1 = K := ⟨_, rfl⟩
  obtain ⟨C, hC⟩ : ∃ C, (atR xs y.r).2 = C := ⟨_, rfl⟩
  rw [hK, hC] at i1
  by_cases h0 : C ≠ 0
  · have hw0 := at_bad (xs := xs) (y := y) (by rw [hC]; exact h0)
    rw [hC] at hw0
    rw [hw0]
    have q1 : (C != 0) = true := by simpa using h0
    unfold seV
    clear hR hw hr hs hK hC h0 hw0 i2 i3 i4
    go_enter Try.func70, Try.ntmps70
    go_wp2_with (go_at_call 64; go_fit (i1 _ (HR.out _ HS.out.2.2)); rintro e w1 ⟨rfl, hb⟩; have HS1 := Lib.hid (HS.out.on hb); clear hb; obtain ⟨⟨c0, c1⟩, f0, f1⟩ := arr9_two HS1.out.2.1)
    have hE : Arr _ (w.heap.size + 1) 27 [.slice none 0 0, .int .i64 C] := ((HS1.out.2.1.put 0 (.slice none 0 0)).put 1 (.int .i64 C))
    exact bodyPost_ret (v := .agg #[.slice none 0 0, .int .i64 C]) (results_cell_row (P := Try.prog) Try.results70 _ _ (w.heap.size + 1) 27 _ (0, 0) _ rfl hE Try.underlying27 rfl (by kernel_rfl)) rfl
      ⟨so_ill _ _ _, (HS1.out.2.2.setCell (p := ⟨w.heap.size + 1, 0, none⟩) (Nat.le_succ _) _).setCell (p := ⟨w.heap.size + 1, 1, none⟩) (Nat.le_succ _) _⟩
  · obtain rfl : C = 0 := by omega
    obtain ⟨g1, g2, g3, g4⟩ := at_ok hC
    have hlt := here_lt g3
    rw [with_ok g1 g2 g3]
    obtain ⟨P, hP⟩ : ∃ P, posS y.r xs = P := ⟨_, rfl⟩
    rw [hP] at hlt g4 ⊢
    rw [hK] at g4
    subst g4
    obtain ⟨n, hxn⟩ : ∃ n, xs.length = n := ⟨_, rfl⟩
    have HN := Lib.hid hxn
    have HLT := Lib.hid hlt
    rw [hxn] at hn i1 i3 hlt ⊢
    have q1 : (0 : Int) ≤ (P : Int) := by omega
    have q2 : (P : Int) < (n : Int) := by omega
    obtain ⟨b1, h1⟩ : ∃ b, seB y = b := ⟨_, rfl⟩
    rw [h1] at i2 ⊢
    unfold seV at i2 i4 ⊢
    clear hR hw hr hs hK hC h0 hxn h1 hP g1 g2 g3
    cases b1
    · rw [if_pos rfl]
      go_enter Try.func70, Try.ntmps70
      go_wp2_with (first
        | (go_at_call 64; go_fit (i1 _ (HR.out _ HS.out.2.2)); rintro e w1 ⟨rfl, hb⟩; have HS1 := Lib.hid (HS.out.on hb); clear hb; obtain ⟨⟨a0, a1, a2, a3⟩, -⟩ := arr9_cells HS1.out.1)
        | (go_at_call 83; go_fit (i2 _); rintro e w2 ⟨rfl, hb⟩; have HS2 := Lib.hid (HS1.out.on hb); clear hb; obtain ⟨⟨c0, c1⟩, f0, f1⟩ := arr9_two HS2.out.2.1))
      have hE : Arr _ (w.heap.size + 1) 27 [.slice none 0 0, .int .i64 1] := ((HS2.out.2.1.put 0 (.slice none 0 0)).put 1 (.int .i64 1))
      exact bodyPost_ret (v := .agg #[.slice none 0 0, .int .i64 1]) (results_cell_row (P := Try.prog) Try.results70 _ _ (w.heap.size + 1) 27 _ (0, 0) _ rfl hE Try.underlying27 rfl (by kernel_rfl)) rfl
        ⟨so_ill _ _ _, (HS2.out.2.2.setCell (p := ⟨w.heap.size + 1, 0, none⟩) (Nat.le_succ _) _).setCell (p := ⟨w.heap.size + 1, 1, none⟩) (Nat.le_succ _) _⟩
    · rw [if_neg (by decide)]
      go_enter Try.func70, Try.ntmps70
      go_wp2_with (first
        | (go_at_call 64; go_fit (i1 _ (HR.out _ HS.out.2.2)); rintro e w1 ⟨rfl, hb⟩; have HS1 := Lib.hid (HS.out.on hb); clear hb; obtain ⟨⟨a0, a1, a2, a3⟩, -⟩ := arr9_cells HS1.out.1)
        | (go_at_call 83; go_fit (i2 _); rintro e w2 ⟨rfl, hb⟩; have HS2 := Lib.hid (HS1.out.on hb); clear hb)
        | (go_at_call 67; go_fit (i3 _ (HR.out _ HS2.out.2.2)); rintro e w3 ⟨⟨rfl, hv⟩, hb⟩; have HS3 := Lib.hid (HS2.out.on hb); have HV3 := Lib.hid hv; clear hb hv; obtain ⟨⟨a0, a1, a2, a3⟩, -⟩ := arr9_cells HS3.out.1)
        | (go_at_call 107; go_fit (i4 _); rintro e w4 ⟨rfl, hb⟩; have HS4 := Lib.hid (HS3.out.on hb); have HV4 := Lib.hid (HV3.out.on hb); clear hb; obtain ⟨⟨r0, r1, r2, r3⟩, f0, f1, f2, f3⟩ := own_free9 HV4.out P HLT.out; have hg2 := arr9_lt HS2.out.2.1; obtain ⟨⟨c0, c1⟩, k0, k1⟩ := arr9_two HS4.out.2.1))
      have hP9 := HS4.out.put (show w.heap.size + 2 ≤ w2.heap.size by omega) P y
      have hO9 := own_put9 HV4.out P HLT.out y
      have hE : Arr _ (w.heap.size + 1) 27 [.slice (some ⟨w2.heap.size, 0, none⟩) n n, .int .i64 0] := ((hP9.2.1.put 0 (.slice (some ⟨w2.heap.size, 0, none⟩) n n)).put 1 (.int .i64 0))
      have hL : (xs.set P y).length = n := by rw [List.length_set]; exact HN.out
      have hO : OwnC seC (((put9 w4 w2.heap.size P y).setCell ⟨w.heap.size + 1, 0, none⟩ (.slice (some ⟨w2.heap.size, 0, none⟩) n n)).setCell ⟨w.heap.size + 1, 1, none⟩ (.int .i64 0)) w2.heap.size 84 4 (.slice (some ⟨w2.heap.size, 0, none⟩) n n) (xs.set P y) := (hO9.low (a := ⟨w.heap.size + 1, 0, none⟩) hg2 _).low (a := ⟨w.heap.size + 1, 1, none⟩) hg2 _
      exact bodyPost_ret (v := .agg #[.slice (some ⟨w2.heap.size, 0, none⟩) n n, .int .i64 0]) (results_cell_row (P := Try.prog) Try.results70 _ _ (w.heap.size + 1) 27 _ (0, 0) _ rfl hE Try.underlying27 rfl (by kernel_rfl)) rfl
        ⟨⟨some ⟨w2.heap.size, 0, none⟩, n, by show _ = Ending.returned (.agg #[.slice (some ⟨w2.heap.size, 0, none⟩) (xs.set P y).length n, .int .i64 0]); rw [hL], by show OwnC _ _ _ _ _ (.slice _ (xs.set P y).length n) _; rw [hL]; exact hO.mono (by omega)⟩, (hP9.2.2.setCell (p := ⟨w.heap.size + 1, 0, none⟩) (Nat.le_succ _) _).setCell (p := ⟨w.heap.size + 1, 1, none⟩) (Nat.le_succ _) _⟩
/-- An answer is passed on: the caller's box. -/
theorem pass9 {w W W2 : World} {b : Nat} {R : SoL} {p : Option Addr} {k B : Nat} (hA : Arr W b 27 [.slice none 0 0, .int .i64 0]) (hb : Below w.heap.size w W) (hB : w.heap.size ≤ b) (hbB : b < B) (ho : OwnC seC W B 84 4 (.slice p R.l.length k) R.l) :
    Arr ((W.setCell ⟨b, 0, none⟩ (.slice p R.l.length k)).setCell ⟨b, 1, none⟩ (.int .i64 R.c)) b 27 [.slice p R.l.length k, .int .i64 R.c] ∧ OwnC seC ((W.setCell ⟨b, 0, none⟩ (.slice p R.l.length k)).setCell ⟨b, 1, none⟩ (.int .i64 R.c)) w.heap.size 84 4 (.slice p R.l.length k) R.l ∧ Below w.heap.size w ((W.setCell ⟨b, 0, none⟩ (.slice p R.l.length k)).setCell ⟨b, 1, none⟩ (.int .i64 R.c)) :=
  ⟨(hA.put 0 _).put 1 _, ((ho.low (a := ⟨b, 0, none⟩) hbB _).low (a := ⟨b, 1, none⟩) hbB _).mono (by omega), (hb.setCell (p := ⟨b, 0, none⟩) hB _).setCell (p := ⟨b, 1, none⟩) hB _⟩
set_option maxHeartbeats 1000000 in
theorem impl_absent (xs : List SeL) (r : ByteArray) (p : Option Addr) (c : Nat) (w : World) (hn : xs.length ≤ 1048576) (hr : r.size ≤ 1048576) (hw : ∀ x ∈ xs, x.r.size ≤ 1048576 ∧ x.s.size ≤ 1048576) (hR : RowC seC 4 w p xs) :
    Calls Try.prog 17 #[.slice p xs.length c, .string r] w fun e w' => SoIs w.heap.size (absR xs r) e w' ∧ Below w.heap.size w w' := by
  have i1 := fun W h => impl_with xs (newS r) p c W hn hr (show 0 ≤ 1048576 by omega) hw h
  unfold seV newS at i1
  unfold absR newS
  have HA0 : Hid (Arr (w.alloc (.cells #[.slice none 0 0, .int .i64 0] 27)) w.heap.size 27 [.slice none 0 0, .int .i64 0] ∧ Below w.heap.size w (w.alloc (.cells #[.slice none 0 0, .int .i64 0] 27))) := Lib.hid ⟨Arr.fresh w _ [.slice none 0 0, .int .i64 0], (Below.refl _ _).alloc (Nat.le_refl _) _⟩
  have HR := Lib.hid (hR.on HA0.out.2)
  obtain ⟨R, hRR⟩ : ∃ R, withR xs ⟨r, false, 0, ⟨#[]⟩⟩ = R := ⟨_, rfl⟩
  rw [hRR] at i1 ⊢
  clear hR hw hr hRR
  dsimp only at i1
  go_enter Try.func17, Try.ntmps17
  go_wp2_with (go_at_call 70; go_fit (i1 _ HR.out); rintro e w1 ⟨⟨q, k, rfl, hv⟩, hb⟩; have HV := Lib.hid hv; have HB := Lib.hid hb; have HA1 := Lib.hid (arr9_on HA0.out.1 hb); clear hb hv; obtain ⟨⟨c0, c1⟩, f0, f1⟩ := arr9_two HA1.out)
  obtain ⟨hE, hO, hBl⟩ := pass9 (W2 := w) HA1.out (HA0.out.2.trans (HB.out.mono HA0.out.2.size)) (Nat.le_refl _) (by simp) HV.out
  exact bodyPost_ret (v := .agg #[.slice q R.l.length k, .int .i64 R.c]) (results_cell_row (P := Try.prog) Try.results17 _ _ w.heap.size 27 _ (0, 0) _ rfl hE Try.underlying27 rfl (by kernel_rfl)) rfl
    ⟨⟨q, k, rfl, hO⟩, hBl⟩
set_option maxHeartbeats 1000000 in
theorem impl_present (xs : List SeL) (r : ByteArray) (pr : Int) (s : ByteArray) (p : Option Addr) (c : Nat) (w : World) (hn : xs.length ≤ 1048576) (hr : r.size ≤ 1048576) (hs : s.size ≤ 1048576) (hw : ∀ x ∈ xs, x.r.size ≤ 1048576 ∧ x.s.size ≤ 1048576) (hR : RowC seC 4 w p xs) :
    Calls Try.prog 15 #[.slice p xs.length c, .string r, .int .i64 pr, .string s] w fun e w' => SoIs w.heap.size (presR xs r pr s) e w' ∧ Below w.heap.size w w' := by
  have i1 := fun W h => impl_with xs ⟨r, true, pr, s⟩ p c W hn hr hs hw h
  unfold seV at i1
  unfold presR
  have HA0 : Hid (Arr (w.alloc (.cells #[.slice none 0 0, .int .i64 0] 27)) w.heap.size 27 [.slice none 0 0, .int .i64 0] ∧ Below w.heap.size w (w.alloc (.cells #[.slice none 0 0, .int .i64 0] 27))) := Lib.hid ⟨Arr.fresh w _ [.slice none 0 0, .int .i64 0], (Below.refl _ _).alloc (Nat.le_refl _) _⟩
  by_cases hbig : 20000 < s.size
  · rw [if_pos hbig]
    clear i1 hR hw
    go_enter Try.func15, Try.ntmps15
    go_wp2
    have hE := Arr.fresh w 27 [.slice none 0 0, .int .i64 2]
    exact bodyPost_ret (v := .agg #[.slice none 0 0, .int .i64 2]) (results_cell_row (P := Try.prog) Try.results15 _ _ w.heap.size 27 _ (0, 0) _ rfl hE Try.underlying27 rfl (by kernel_rfl)) rfl ⟨so_ill _ _ _, (Below.refl _ _).alloc (Nat.le_refl _) _⟩
  rw [if_neg hbig]
  have HR := Lib.hid (hR.on HA0.out.2)
  obtain ⟨R, hRR⟩ : ∃ R, withR xs ⟨r, true, pr, s⟩ = R := ⟨_, rfl⟩
  rw [hRR] at i1 ⊢
  clear hR hw hr hRR
  dsimp only at i1
  go_enter Try.func15, Try.ntmps15
  go_wp2_with (go_at_call 70; go_fit (i1 _ HR.out); rintro e w1 ⟨⟨q, k, rfl, hv⟩, hb⟩; have HV := Lib.hid hv; have HB := Lib.hid hb; have HA1 := Lib.hid (arr9_on HA0.out.1 hb); clear hb hv; obtain ⟨⟨c0, c1⟩, f0, f1⟩ := arr9_two HA1.out)
  obtain ⟨hE, hO, hBl⟩ := pass9 (W2 := w) HA1.out (HA0.out.2.trans (HB.out.mono HA0.out.2.size)) (Nat.le_refl _) (by simp) HV.out
  exact bodyPost_ret (v := .agg #[.slice q R.l.length k, .int .i64 R.c]) (results_cell_row (P := Try.prog) Try.results15 _ _ w.heap.size 27 _ (0, 0) _ rfl hE Try.underlying27 rfl (by kernel_rfl)) rfl
    ⟨⟨q, k, rfl, hO⟩, hBl⟩
end Go.Proofs.Ytafdjjdmcnlddaa

namespace Go.Proofs.Ytafdjjdmcnlddaa
set_option linter.unusedSimpArgs false
set_option linter.unusedVariables false
open Go.RowKit Go.Joins

theorem row_own9 {W : World} {B : Nat} {p : Option Addr} {k n : Nat} {xs : List SeL} (h : OwnC seC W B 84 4 (.slice p n k) xs) : RowC seC 4 W p xs := by
  obtain ⟨p', k', e, hR⟩ := h.row seC_len
  injection e with e1 e2 e3
  rw [e1]
  exact hR
theorem one_all9 (xs : List SeL) : ∀ u ∈ xs.flatMap seC, u.oneCell' = true := by
  intro u hu
  obtain ⟨x, _, hx⟩ := List.mem_flatMap.1 hu
  exact seC_one x u hx
theorem empty_row9 (W : World) : OwnC seC (W.alloc (.cells #[] 84)) W.heap.size 84 4 (.slice (some ⟨W.heap.size, 0, none⟩) 0 0) [] :=
  World.ownsRow_lit W #[] 0 (Nat.le_refl _) (Nat.zero_le _) rfl
/-- append(v, row...). -/
theorem wp_app_row9 {o : Oper} {a : Act} {w : World} {K : Act → World → Prop} {Q : Exit → Act → World → Prop} (s x : Operand)
    (ho : o.op = .call { callee := .builtin .append, args := #[s, x], argTypes := #[23, 23] })
    (B : Nat) (v : Value) (ys : List SeL) (hs : a.eval s = v) (hown : OwnC seC w B 84 4 v ys) (B2 : Nat) (p : Option Addr) (n c : Nat) (xs : List SeL) (hx : a.eval x = .slice p n c) (hrow : OwnC seC w B2 84 4 (.slice p n c) xs)
    (hlen : ys.length + xs.length ≤ 2000000) (hB : B ≤ w.heap.size) (h : ∀ v' w', OwnC seC w' B 84 4 v' (ys ++ xs) → w.grownBy w' v.ownBlock → K (a.put o.dst v') w') : o.wp Try.prog a w K Q := by
  obtain ⟨i0, hi, hz0, hz1, hz2⟩ := info_parts info_sec
  rcases hrow.2 with ⟨e, h0⟩ | ⟨g, cap, cur, e, h1, h2, h3, h4, h5, h6⟩
  · obtain rfl := List.eq_nil_of_length_eq_zero h0
    rw [e] at hx
    have hr := run_append_owned_none (P := Try.prog) (w := w) B 23 o.type 84 i0 4 Try.underlying23 hi v ys.length (ys.flatMap seC) hown
    rw [List.append_nil] at h
    unfold Oper.wp execOp
    simp only [ho, resolve, invoke, builtin, Sem.run_bind, Sem.run_pure, Result.andThen_ok, List.map_toArray, List.map_cons, List.map_nil, hs, hx, hr]
    exact h v w hown (World.grownBy.refl w _)
  · have hc := hrow
    rw [e] at hx hc
    refine wp_append_own w s x 23 ho B 84 i0 _ 4 48 Try.underlying23 hi hz0 hz1 hz2 rfl (by decide) v ys.length (ys.flatMap seC) hs hown ⟨g, 0, none⟩ xs.length cap (xs.flatMap seC) hx hc.1 (fun j u hj => ?_) (one_all9 xs) (by unfold maxLen; omega) (by omega) hB (fun v' w' h1 h2 _ => h v' w' ?_ h2)
    · have hlt : j < xs.length * 4 := by
        have := (List.getElem?_eq_some_iff.1 hj).1
        rw [hc.1] at this
        exact this
      have := World.ownsRow.cellAt hc j hlt
      rw [hj] at this
      rw [show (⟨g, 0, none⟩ : Addr).add j = ⟨g, j, none⟩ by unfold Addr.add; split <;> simp_all]
      exact this
    · show w'.ownsRow B _ 4 v' (ys ++ xs).length ((ys ++ xs).flatMap seC)
      rw [List.length_append, List.flatMap_append]
      exact h1
theorem wpList_app_row9 {ops : Array Oper} {rest : List Oper} {o : Oper} {a : Act} {w : World} {Q : Exit → Act → World → Prop} (hgd : o.guard = none) (s x : Operand)
    (ho : o.op = .call { callee := .builtin .append, args := #[s, x], argTypes := #[23, 23] })
    (B : Nat) (v : Value) (ys : List SeL) (hs : a.eval s = v) (hown : OwnC seC w B 84 4 v ys) (B2 : Nat) (p : Option Addr) (n c : Nat) (xs : List SeL) (hx : a.eval x = .slice p n c) (hrow : OwnC seC w B2 84 4 (.slice p n c) xs)
    (hlen : ys.length + xs.length ≤ 2000000) (hB : B ≤ w.heap.size) (h : ∀ v' w', OwnC seC w' B 84 4 v' (ys ++ xs) → w.grownBy w' v.ownBlock → wpList Try.prog ops Q rest (a.put o.dst v') w') : wpList Try.prog ops Q (o :: rest) a w :=
  wpList_plain hgd fun K hK => wp_app_row9 s x ho B v ys hs hown B2 p n c xs hx hrow hlen hB fun v' w' h1 h2 => hK _ _ (h v' w' h1 h2)
theorem Wt9.grow {w W W2 : World} {y : SeL} {r : Nat} (h : Wt9 w W y) (hg : W.grownBy W2 (some r)) (hr : w.heap.size + 2 ≤ r) : Wt9 w W2 y := by
  have h1 := arr9_lt h.1
  have h2 := arr9_lt h.2.1
  exact ⟨(hg.block _ h1 (fun e => by injection e; omega)).trans h.1, (hg.block _ h2 (fun e => by injection e; omega)).trans h.2.1, h.2.2.grown hg h.2.2.size (fun k hk => by injection hk; omega)⟩
theorem spec_ill9 (code : Int) (w : World) : Calls Try.prog 71 #[.int .i64 code] w fun e w' => e = .returned (.agg #[.slice none 0 0, .int .i64 code]) ∧ Below w.heap.size w w' := by
  go_enter Try.func71, Try.ntmps71
  go_wp2
  have hA := Arr.fresh w 27 [.slice none 0 0, .int .i64 code]
  exact bodyPost_ret (v := .agg #[.slice none 0 0, .int .i64 code]) (results_cell_row (P := Try.prog) Try.results71 _ _ w.heap.size 27 _ (0, 0) _ rfl hA Try.underlying27 rfl (by kernel_rfl)) rfl ⟨rfl, (Below.refl _ _).alloc (Nat.le_refl _) _⟩
def NotAt (xs : List SeL) (r : ByteArray) (k : Nat) : Prop := ∀ i (h : i < xs.length), i < k → (xs[i].r.toList == r.toList) = false
def whereI (r : ByteArray) (xs : List SeL) : Int := if hereB r xs = true then (posS r xs : Int) else -1
set_option maxRecDepth 100000 in
set_option maxHeartbeats 1000000 in
theorem spec_at9 (xs : List SeL) (r : ByteArray) (p : Option Addr) (c : Nat) (w : World) (hn : xs.length ≤ 1048576) (hI : IncR xs xs.length) (hR : RowC seC 4 w p xs) :
    Calls Try.prog 73 #[.slice p xs.length c, .string r] w fun e w' => e = .returned (.int .i64 (whereI r xs)) ∧ Below w.heap.size w w' := by
  obtain ⟨n, hxn⟩ : ∃ n, xs.length = n := ⟨_, rfl⟩
  have HP := Lib.hid (fun W (h : Below w.heap.size w W) => hR.on h)
  have HN := Lib.hid hxn
  have HI := Lib.hid hI
  obtain ⟨Z, hZ⟩ : ∃ Z, whereI r xs = Z := ⟨_, rfl⟩
  have HZ := Lib.hid hZ
  rw [hxn] at hn ⊢
  rw [hZ]
  clear hR hxn hI hZ
  go_enter Try.func73, Try.ntmps73
  go_wp2
  go_loopw [5] (fun iq wr => ∃ k : Nat, k ≤ n ∧ iq = .int .i64 k ∧ NotAt xs r k ∧ Below w.heap.size w wr) (fun i _ => n - (intOf i).toNat)
  case atStart => exact ⟨0, Nat.zero_le _, rfl, fun i _ h => absurd h (Nat.not_lt_zero _), Below.refl _ _⟩
  case round =>
    obtain ⟨k, hk, rfl, hA, hb⟩ := hrel
    have HA := Lib.hid hA
    have HB := Lib.hid hb
    clear hA
    by_cases hlt : k < n
    · have hlt1 : k < xs.length := by rw [HN.out]; exact hlt
      obtain ⟨g, rfl, hg, a0, a1, a2, a3⟩ := row_se4 (HP.out _ hb) hlt1
      obtain ⟨x, hx⟩ : ∃ x, xs[k] = x := ⟨_, rfl⟩
      rw [hx] at a0 a1 a2 a3
      obtain ⟨b1, h1⟩ : ∃ b, (x.r.toList == r.toList) = b := ⟨_, rfl⟩
      have HX : Hid ((xs[k].r.toList == r.toList) = b1) := Lib.hid (by rw [hx]; exact h1)
      clear hb hx
      cases b1
      · go_wp2
        go_roundw
        case rel =>
          refine ⟨k + 1, by omega, by go_num, fun i hi h => ?_, HB.out⟩
          by_cases e : i = k
          · subst e; exact HX.out
          · exact HA.out i hi (by omega)
        case measure => simp [intOf]; omega
      · have HL : Hid ((k : Int) = Z) := Lib.hid (by
          obtain ⟨h2, h3⟩ := here_only (r := r) HI.out hlt1 (by simpa using HX.out)
          rw [← HZ.out]
          unfold whereI
          rw [if_pos h3, ← h2])
        go_wp2
        go_ret
        exact ⟨congrArg (fun z : Int => Ending.returned (.int .i64 z)) HL.out, HB.out⟩
    · have HL : Hid (Z = -1) := Lib.hid (by
        rw [← HZ.out]
        unfold whereI
        refine if_neg (fun h => ?_)
        have hp := here_lt h
        rw [here_at hp] at h
        rw [HA.out _ hp (by rw [HN.out] at hp; omega)] at h
        cases h)
      clear hb
      go_wp2
      go_ret
      exact ⟨congrArg (fun z : Int => Ending.returned (.int .i64 z)) HL.out.symm, HB.out⟩
noncomputable def setR (xs : List SeL) (y : SeL) : SoL := if hereB y.r xs = true then ⟨xs.set (posS y.r xs) y, 0⟩ else illS 6
set_option maxRecDepth 100000 in
set_option maxHeartbeats 2000000 in
theorem spec_set9 (xs : List SeL) (y : SeL) (p : Option Addr) (c B0 : Nat) (w : World) (hn : xs.length ≤ 5) (hI : IncR xs xs.length) (hO : OwnC seC w B0 84 4 (.slice p xs.length c) xs) :
    Calls Try.prog 77 #[.slice p xs.length c, .string y.r, seV y] w fun e w' => SoIs w.heap.size (setR xs y) e w' ∧ Below w.heap.size w w' := by
  have HO := Lib.hid (fun W (h : Below w.heap.size w W) => hO.on h)
  have i1 := fun W h => spec_at9 xs y.r p c W (by omega) hI h
  have i2 := fun W => spec_ill9 6 W
  have HS := Lib.hid (wt9_start w y)
  unfold setR
  unfold whereI at i1
  obtain ⟨P, hP⟩ : ∃ P, posS y.r xs = P := ⟨_, rfl⟩
  obtain ⟨n, hxn⟩ : ∃ n, xs.length = n := ⟨_, rfl⟩
  have HN := Lib.hid hxn
  by_cases hz : hereB y.r xs = true
  · rw [if_pos hz] at i1 ⊢
    have hlt := here_lt hz
    rw [hP] at i1 hlt ⊢
    have HLT := Lib.hid hlt
    rw [hxn] at hn i1 hlt HO ⊢
    have q1 : (0 : Int) ≤ (P : Int) := by omega
    have q2 : (P : Int) < (n : Int) := by omega
    unfold seV
    clear hO hI hP hz hxn i2
    go_enter Try.func77, Try.ntmps77
    go_wp2_with (first
      | (go_at_call 73; go_fit (i1 _ (row_own9 (HO.out _ HS.out.2.2))); rintro e w1 ⟨rfl, hb⟩; have HS1 := Lib.hid (HS.out.on hb); clear hb)
      | (at_builtin; have _ := HS1; refine wpList_app_row9 rfl _ _ rfl w1.heap.size _ [] rfl (empty_row9 w1) B0 _ _ _ xs rfl ((HO.out _ HS1.out.2.2).alloc _) (by rw [HN.out]; simp; omega) (by simp) ?_; intro v' w2 ho hg; rw [List.nil_append] at ho; obtain ⟨q, k, hv, _⟩ := ho.row seC_len; rw [HN.out] at hv; subst hv; have hz9 := arr9_lt HS1.out.2.1; obtain ⟨gg, k9, e9⟩ := Joins.ownsRow_form ho (by rw [HN.out]; omega); rw [HN.out] at e9; rw [e9] at ho ⊢; have HV := Lib.hid ho; have HS2 := Lib.hid ((HS1.out.on ((Below.refl _ _).alloc (Nat.le_refl _) (.cells #[] 84))).grow (r := w1.heap.size) hg (by omega)); have hgg := own_base ho gg rfl; clear ho hg; obtain ⟨⟨a0, a1, a2, a3⟩, -⟩ := arr9_cells HS2.out.1; obtain ⟨⟨r0, r1, r2, r3⟩, f0, f1, f2, f3⟩ := own_free9 HV.out P HLT.out; obtain ⟨⟨c0, c1⟩, k0, k1⟩ := arr9_two HS2.out.2.1))
    have hP9 := HS2.out.put (show w.heap.size + 2 ≤ gg by omega) P y
    have hO9 := own_put9 HV.out P HLT.out y
    have hg2 : w.heap.size + 1 < gg := by omega
    have hE : Arr _ (w.heap.size + 1) 27 [.slice (some ⟨gg, 0, none⟩) n k, .int .i64 0] := ((hP9.2.1.put 0 (.slice (some ⟨gg, 0, none⟩) n k)).put 1 (.int .i64 0))
    have hL : (xs.set P y).length = n := by rw [List.length_set]; exact HN.out
    have hO : OwnC seC (((put9 w2 gg P y).setCell ⟨w.heap.size + 1, 0, none⟩ (.slice (some ⟨gg, 0, none⟩) n k)).setCell ⟨w.heap.size + 1, 1, none⟩ (.int .i64 0)) w1.heap.size 84 4 (.slice (some ⟨gg, 0, none⟩) n k) (xs.set P y) := (hO9.low (a := ⟨w.heap.size + 1, 0, none⟩) hz9 _).low (a := ⟨w.heap.size + 1, 1, none⟩) hz9 _
    exact bodyPost_ret (v := .agg #[.slice (some ⟨gg, 0, none⟩) n k, .int .i64 0]) (results_cell_row (P := Try.prog) Try.results77 _ _ (w.heap.size + 1) 27 _ (0, 0) _ rfl hE Try.underlying27 rfl (by kernel_rfl)) rfl
      ⟨⟨some ⟨gg, 0, none⟩, k, by show _ = Ending.returned (.agg #[.slice (some ⟨gg, 0, none⟩) (xs.set P y).length k, .int .i64 0]); rw [hL], by show OwnC _ _ _ _ _ (.slice _ (xs.set P y).length k) _; rw [hL]; exact hO.mono (by omega)⟩, (hP9.2.2.setCell (p := ⟨w.heap.size + 1, 0, none⟩) (Nat.le_succ _) _).setCell (p := ⟨w.heap.size + 1, 1, none⟩) (Nat.le_succ _) _⟩
  · rw [if_neg hz] at i1 ⊢
    rw [hxn] at hn i1 HO ⊢
    unfold seV
    clear hO hI hP hz hxn
    go_enter Try.func77, Try.ntmps77
    go_wp2_with (first
      | (go_at_call 73; go_fit (i1 _ (row_own9 (HO.out _ HS.out.2.2))); rintro e w1 ⟨rfl, hb⟩; have HS1 := Lib.hid (HS.out.on hb); clear hb)
      | (go_at_call 71; go_fit (i2 _); rintro e w2 ⟨rfl, hb⟩; have HS2 := Lib.hid (HS1.out.on hb); clear hb; obtain ⟨⟨c0, c1⟩, k0, k1⟩ := arr9_two HS2.out.2.1))
    have hE : Arr _ (w.heap.size + 1) 27 [.slice none 0 0, .int .i64 6] := ((HS2.out.2.1.put 0 (.slice none 0 0)).put 1 (.int .i64 6))
    exact bodyPost_ret (v := .agg #[.slice none 0 0, .int .i64 6]) (results_cell_row (P := Try.prog) Try.results77 _ _ (w.heap.size + 1) 27 _ (0, 0) _ rfl hE Try.underlying27 rfl (by kernel_rfl)) rfl
      ⟨so_ill _ _ _, (HS2.out.2.2.setCell (p := ⟨w.heap.size + 1, 0, none⟩) (Nat.le_succ _) _).setCell (p := ⟨w.heap.size + 1, 1, none⟩) (Nat.le_succ _) _⟩
theorem ba_eq {s t : ByteArray} (h : s.toList = t.toList) : s = t := by
  rw [ba_ext h, ByteArray.toList_eq]
theorem here_res {xs : List SeL} {r : ByteArray} (h1 : okB xs = true) (h2 : hereB r xs = true) : resB r = true := by
  have hlt := here_lt h2
  have h3 := (okB_iff.1 h1).2.2 _ hlt hlt
  rw [here_at hlt] at h2
  have e := ba_eq (show xs[posS r xs].r.toList = r.toList by simpa using h2)
  unfold seB at h3
  rw [e] at h3
  simp only [Bool.and_eq_true] at h3
  exact h3.1.1.2
theorem set_with {xs : List SeL} {y : SeL} (h1 : ¬ (400 < xs.length ∨ 20000 < y.r.size)) (h2 : okB xs = true) (h3 : hereB y.r xs = true → seB y = true) : withR xs y = setR xs y := by
  unfold withR setR
  rw [if_neg h1, if_neg (by rw [h2]; decide)]
  by_cases hz : hereB y.r xs = true
  · rw [if_neg (by rw [hz]; decide), if_neg (by rw [h3 hz]; decide), if_pos hz]
  · rw [if_pos (by simpa using hz), if_neg hz]
theorem se_new {r : ByteArray} (h : resB r = true) : seB (newS r) = true := by
  unfold seB newS
  dsimp only
  rw [h]
  have e : showB ⟨#[]⟩ = true := by unfold showB; rw [ByteArray.toList_eq]; decide
  rw [e]
  rfl
set_option maxRecDepth 100000 in
set_option maxHeartbeats 2000000 in
theorem spec_absent (xs : List SeL) (r : ByteArray) (p : Option Addr) (c B0 : Nat) (w : World) (hn : xs.length ≤ 1048576) (hr : r.size ≤ 1048576) (hw : ∀ x ∈ xs, x.r.size ≤ 1048576 ∧ x.s.size ≤ 1048576) (hO : OwnC seC w B0 84 4 (.slice p xs.length c) xs) :
    Calls Try.prog 23 #[.slice p xs.length c, .string r] w fun e w' => SoIs w.heap.size (absR xs r) e w' ∧ Below w.heap.size w w' := by
  have HA0 : Hid (Arr (w.alloc (.cells #[.slice none 0 0, .int .i64 0] 27)) w.heap.size 27 [.slice none 0 0, .int .i64 0] ∧ Below w.heap.size w (w.alloc (.cells #[.slice none 0 0, .int .i64 0] 27))) := Lib.hid ⟨Arr.fresh w _ [.slice none 0 0, .int .i64 0], (Below.refl _ _).alloc (Nat.le_refl _) _⟩
  have HO := Lib.hid (fun W (h : Below w.heap.size w W) => hO.on h)
  have i0 := fun code W => spec_ill9 code W
  have i1 := fun W h => spec_seright xs p c W hn (fun x hx => by have := (hw x hx).1; unfold maxLen; omega) h
  have i2 := fun W (hk : okB xs = true) h => spec_set9 xs (newS r) p c B0 W (okB_iff.1 hk).1 (okB_iff.1 hk).2.1 h
  obtain ⟨n, hxn⟩ : ∃ n, xs.length = n := ⟨_, rfl⟩
  by_cases h1 : 400 < xs.length ∨ 20000 < r.size
  · rw [show absR xs r = illS 2 by unfold absR withR; exact if_pos h1]
    rw [hxn] at h1 hn ⊢
    clear hO hw i1 i2 hxn
    by_cases h2 : 400 < n
    · go_enter Try.func23, Try.ntmps23
      go_wp2_with (go_at_call 71; go_fit (i0 _ _); rintro e w2 ⟨rfl, hb⟩; have HA1 := Lib.hid (arr9_on HA0.out.1 hb); have HB1 := Lib.hid (HA0.out.2.trans (hb.mono HA0.out.2.size)); clear hb; obtain ⟨⟨c0, c1⟩, k0, k1⟩ := arr9_two HA1.out)
      have hE : Arr _ w.heap.size 27 [.slice none 0 0, .int .i64 2] := ((HA1.out.put 0 (.slice none 0 0)).put 1 (.int .i64 2))
      exact bodyPost_ret (v := .agg #[.slice none 0 0, .int .i64 2]) (results_cell_row (P := Try.prog) Try.results23 _ _ w.heap.size 27 _ (0, 0) _ rfl hE Try.underlying27 rfl (by kernel_rfl)) rfl
        ⟨so_ill _ _ _, (HB1.out.setCell (p := ⟨w.heap.size, 0, none⟩) (Nat.le_refl _) _).setCell (p := ⟨w.heap.size, 1, none⟩) (Nat.le_refl _) _⟩
    · have h3 : 20000 < r.size := by omega
      go_enter Try.func23, Try.ntmps23
      go_wp2_with (go_at_call 71; go_fit (i0 _ _); rintro e w2 ⟨rfl, hb⟩; have HA1 := Lib.hid (arr9_on HA0.out.1 hb); have HB1 := Lib.hid (HA0.out.2.trans (hb.mono HA0.out.2.size)); clear hb; obtain ⟨⟨c0, c1⟩, k0, k1⟩ := arr9_two HA1.out)
      have hE : Arr _ w.heap.size 27 [.slice none 0 0, .int .i64 2] := ((HA1.out.put 0 (.slice none 0 0)).put 1 (.int .i64 2))
      exact bodyPost_ret (v := .agg #[.slice none 0 0, .int .i64 2]) (results_cell_row (P := Try.prog) Try.results23 _ _ w.heap.size 27 _ (0, 0) _ rfl hE Try.underlying27 rfl (by kernel_rfl)) rfl
        ⟨so_ill _ _ _, (HB1.out.setCell (p := ⟨w.heap.size, 0, none⟩) (Nat.le_refl _) _).setCell (p := ⟨w.heap.size, 1, none⟩) (Nat.le_refl _) _⟩
  by_cases h2 : okB xs = true
  · have e : absR xs r = setR xs (newS r) := set_with h1 h2 (fun h => se_new (here_res h2 h))
    rw [e]
    replace i2 := fun W h => i2 W h2 h
    rw [h2] at i1
    obtain ⟨R, hRR⟩ : ∃ R, setR xs (newS r) = R := ⟨_, rfl⟩
    rw [hRR] at i2 ⊢
    unfold seV newS at i2
    dsimp only at i2
    rw [hxn] at h1 hn i1 i2 HO ⊢
    have q1 : ¬ 400 < n := fun h => h1 (.inl h)
    have q2 : ¬ 20000 < r.size := fun h => h1 (.inr h)
    clear hO hw hxn hRR e h1 h2
    go_enter Try.func23, Try.ntmps23
    go_wp2_with (first
      | (go_at_call 31; go_fit (i1 _ (row_own9 (HO.out _ HA0.out.2))); rintro e w1 ⟨rfl, hb⟩; have HA1 := Lib.hid (arr9_on HA0.out.1 hb); have HB1 := Lib.hid (HA0.out.2.trans (hb.mono HA0.out.2.size)); clear hb)
      | (go_at_call 77; go_fit (i2 _ (HO.out _ HB1.out)); rintro e w2 ⟨⟨q, k, rfl, hv⟩, hb⟩; have HV := Lib.hid hv; have HA2 := Lib.hid (arr9_on HA1.out hb); have HB2 := Lib.hid (HB1.out.trans (hb.mono HB1.out.size)); have hlt := arr9_lt HA1.out; clear hb hv; obtain ⟨⟨c0, c1⟩, k0, k1⟩ := arr9_two HA2.out))
    obtain ⟨hE, hO2, hBl⟩ := pass9 (W2 := w) HA2.out HB2.out (Nat.le_refl _) hlt HV.out
    exact bodyPost_ret (v := .agg #[.slice q R.l.length k, .int .i64 R.c]) (results_cell_row (P := Try.prog) Try.results23 _ _ w.heap.size 27 _ (0, 0) _ rfl hE Try.underlying27 rfl (by kernel_rfl)) rfl
      ⟨⟨q, k, rfl, hO2⟩, hBl⟩
  · rw [show absR xs r = illS 1 by unfold absR withR; rw [if_neg (show ¬ (400 < xs.length ∨ 20000 < (newS r).r.size) from h1), if_pos (by simpa using h2)]]
    rw [show okB xs = false by simpa using h2] at i1
    rw [hxn] at h1 hn i1 HO ⊢
    have q1 : ¬ 400 < n := fun h => h1 (.inl h)
    have q2 : ¬ 20000 < r.size := fun h => h1 (.inr h)
    clear hO hw i2 hxn h1 h2
    go_enter Try.func23, Try.ntmps23
    go_wp2_with (first
      | (go_at_call 31; go_fit (i1 _ (row_own9 (HO.out _ HA0.out.2))); rintro e w1 ⟨rfl, hb⟩; have HA1 := Lib.hid (arr9_on HA0.out.1 hb); have HB1 := Lib.hid (HA0.out.2.trans (hb.mono HA0.out.2.size)); clear hb)
      | (go_at_call 71; go_fit (i0 _ _); rintro e w2 ⟨rfl, hb⟩; have HA2 := Lib.hid (arr9_on HA1.out hb); have HB2 := Lib.hid (HB1.out.trans (hb.mono HB1.out.size)); clear hb; obtain ⟨⟨c0, c1⟩, k0, k1⟩ := arr9_two HA2.out))
    have hE : Arr _ w.heap.size 27 [.slice none 0 0, .int .i64 1] := ((HA2.out.put 0 (.slice none 0 0)).put 1 (.int .i64 1))
    exact bodyPost_ret (v := .agg #[.slice none 0 0, .int .i64 1]) (results_cell_row (P := Try.prog) Try.results23 _ _ w.heap.size 27 _ (0, 0) _ rfl hE Try.underlying27 rfl (by kernel_rfl)) rfl
      ⟨so_ill _ _ _, (HB2.out.setCell (p := ⟨w.heap.size, 0, none⟩) (Nat.le_refl _) _).setCell (p := ⟨w.heap.size, 1, none⟩) (Nat.le_refl _) _⟩
end Go.Proofs.Ytafdjjdmcnlddaa

namespace Go.Proofs.Ytafdjjdmcnlddaa
set_option linter.unusedSimpArgs false
set_option linter.unusedVariables false
open Go.RowKit Go.Joins

def insS (j : ByteArray) (xs : List SeL) : List SeL := xs.take (posS j xs) ++ [newS j] ++ xs.drop (posS j xs)
theorem insS_len (j : ByteArray) (xs : List SeL) : (insS j xs).length = xs.length + 1 := by
  unfold insS
  have := pos_le j xs
  simp only [List.length_append, List.length_take, List.length_drop, List.length_cons, List.length_nil]
  omega
theorem get_ofS {l : List SeL} {i : Nat} {a : SeL} (h : l[i]? = some a) (hi : i < l.length) : l[i] = a := by
  rw [List.getElem?_eq_getElem hi] at h
  exact Option.some.inj h
theorem insS_lo {j : ByteArray} {xs : List SeL} {i : Nat} (h : i < posS j xs) (h1 : i < (insS j xs).length) (h2 : i < xs.length) : (insS j xs)[i] = xs[i] := by
  refine get_ofS ?_ h1
  unfold insS
  rw [List.append_assoc, List.getElem?_append_left (by rw [List.length_take]; omega), List.getElem?_take, if_pos h, List.getElem?_eq_getElem h2]
theorem insS_at {j : ByteArray} {xs : List SeL} (h1 : posS j xs < (insS j xs).length) : (insS j xs)[posS j xs] = newS j := by
  refine get_ofS ?_ h1
  have hp := pos_le j xs
  have hl : (xs.take (posS j xs)).length = posS j xs := by rw [List.length_take]; omega
  unfold insS
  rw [List.append_assoc, List.getElem?_append_right (by omega), hl, Nat.sub_self]
  rfl
theorem insS_hi {j : ByteArray} {xs : List SeL} {i : Nat} (h : posS j xs ≤ i) (h1 : i + 1 < (insS j xs).length) (h2 : i < xs.length) : (insS j xs)[i + 1] = xs[i] := by
  refine get_ofS ?_ h1
  have hl : (xs.take (posS j xs)).length = posS j xs := by rw [List.length_take]; omega
  unfold insS
  rw [List.append_assoc, List.getElem?_append_right (by omega), hl, List.getElem?_append_right (by simp; omega), List.getElem?_drop]
  rw [show posS j xs + (i + 1 - posS j xs - [newS j].length) = i by simp only [List.length_cons, List.length_nil]; omega]
  exact List.getElem?_eq_getElem h2
theorem pos_eq {j : ByteArray} {ys : List SeL} {P : Nat} (hP : P < ys.length) (h1 : ∀ i (h : i < ys.length), i < P → Op.bytesLess ys[i].r.toList j.toList = true) (h2 : Op.bytesLess ys[P].r.toList j.toList = false) : posS j ys = P := by
  rcases Nat.lt_trichotomy (posS j ys) P with h | h | h
  · have h3 := pos_at (r := j) (xs := ys) (by omega)
    rw [h1 _ (by omega) h] at h3
    cases h3
  · exact h
  · rw [pos_lo hP h] at h2
    cases h2
theorem insS_pos (j : ByteArray) (xs : List SeL) : posS j (insS j xs) = posS j xs := by
  have hp := pos_le j xs
  refine pos_eq (by rw [insS_len]; omega) (fun i h hi => ?_) ?_
  · rw [insS_lo hi h (by omega)]
    exact pos_lo (by omega) hi
  · rw [insS_at]
    exact sl_self j.toList
theorem insS_here (j : ByteArray) (xs : List SeL) : hereB j (insS j xs) = true := by
  have hp := pos_le j xs
  have h1 : posS j (insS j xs) < (insS j xs).length := by rw [insS_pos, insS_len]; omega
  have h2 : (insS j xs)[posS j (insS j xs)] = newS j := by
    have h3 := insS_at (j := j) (xs := xs) (by rw [insS_len]; omega)
    simp only [insS_pos]
    exact h3
  rw [here_at h1, h2]
  exact beq_self_eq_true j.toList
theorem insS_out (j : ByteArray) (xs : List SeL) : (insS j xs).take (posS j xs) ++ (insS j xs).drop (posS j xs + 1) = xs := by
  have hp := pos_le j xs
  have hl : (xs.take (posS j xs)).length = posS j xs := by rw [List.length_take]; omega
  have e1 : (insS j xs).take (posS j xs) = xs.take (posS j xs) := by
    unfold insS
    rw [List.append_assoc, List.take_append_of_le_length (by omega), List.take_of_length_le (by omega)]
  have e2 : (insS j xs).drop (posS j xs + 1) = xs.drop (posS j xs) := by
    unfold insS
    rw [List.drop_append, List.drop_eq_nil_of_le (by simp only [List.length_append, hl, List.length_cons, List.length_nil]; omega)]
    simp [hl]
  rw [e1, e2, List.take_append_drop]
theorem insS_right {j : ByteArray} {xs : List SeL} (hk : okB xs = true) (ha : resB j = true) (hh : hereB j xs = false) (h8 : xs.length < 5) : okB (insS j xs) = true := by
  obtain ⟨q1, q2, q3⟩ := okB_iff.1 hk
  have hp := pos_le j xs
  have hlen := insS_len j xs
  refine okB_true ⟨by omega, fun i hi h0 _ h' => ?_, fun i hi _ => ?_⟩
  · rcases Nat.lt_trichotomy i (posS j xs) with h | h | h
    · rw [insS_lo (by omega) h' (by omega), insS_lo h hi (by omega)]
      exact q2 i (by omega) h0 (by omega) (by omega)
    · subst h
      rw [insS_lo (by omega) h' (by omega), insS_at]
      exact pos_lo (r := j) (by omega) (by omega)
    · obtain ⟨k, rfl⟩ : ∃ k, i = k + 1 := ⟨i - 1, by omega⟩
      have hkx : k < xs.length := by omega
      rw [insS_hi (by omega) hi hkx]
      simp only [Nat.add_sub_cancel]
      rcases Nat.lt_or_ge (posS j xs) k with h3 | h3
      · obtain ⟨m, rfl⟩ : ∃ m, k = m + 1 := ⟨k - 1, by omega⟩
        rw [insS_hi (by omega) (by omega) (by omega)]
        exact q2 (m + 1) hkx (by omega) hkx (by omega)
      · have hkp : k = posS j xs := by omega
        subst hkp
        rw [insS_at]
        have h4 := pos_at (r := j) (xs := xs) hkx
        cases h5 : Op.bytesLess (newS j).r.toList (xs[posS j xs]).r.toList
        · have h6 := sl_eq _ _ h4 h5
          rw [here_at hkx, h6] at hh
          simp at hh
        · rfl
  · rcases Nat.lt_trichotomy i (posS j xs) with h | h | h
    · rw [insS_lo h hi (by omega)]
      exact q3 i (by omega) (by omega)
    · subst h
      rw [insS_at]
      exact se_new ha
    · obtain ⟨k, rfl⟩ : ∃ k, i = k + 1 := ⟨i - 1, by omega⟩
      rw [insS_hi (by omega) hi (by omega)]
      exact q3 k (by omega) (by omega)
def outS9 (j : ByteArray) (xs : List SeL) : List SeL := xs.take (posS j xs) ++ xs.drop (posS j xs + 1)
theorem outS9_lo {j : ByteArray} {xs : List SeL} {i : Nat} (h : i < posS j xs) (h1 : i < (outS9 j xs).length) (h2 : i < xs.length) : (outS9 j xs)[i] = xs[i] := by
  refine get_ofS ?_ h1
  unfold outS9
  rw [List.getElem?_append_left (by rw [List.length_take]; omega), List.getElem?_take, if_pos h, List.getElem?_eq_getElem h2]
theorem outS9_hi {j : ByteArray} {xs : List SeL} {i : Nat} (h : posS j xs ≤ i) (h1 : i < (outS9 j xs).length) (h2 : i + 1 < xs.length) : (outS9 j xs)[i] = xs[i + 1] := by
  refine get_ofS ?_ h1
  have hl : (xs.take (posS j xs)).length = posS j xs := by rw [List.length_take]; omega
  unfold outS9
  rw [List.getElem?_append_right (by omega), hl, List.getElem?_drop, show posS j xs + 1 + (i - posS j xs) = i + 1 by omega]
  exact List.getElem?_eq_getElem h2
theorem outS9_right {j : ByteArray} {xs : List SeL} (hk : okB xs = true) (hh : hereB j xs = true) : okB (outS9 j xs) = true := by
  obtain ⟨q1, q2, q3⟩ := okB_iff.1 hk
  have hp := here_lt hh
  have hlen : (outS9 j xs).length = xs.length - 1 := by
    unfold outS9
    rw [List.length_append, List.length_take, List.length_drop]
    omega
  refine okB_true ⟨by omega, fun i hi h0 _ h' => ?_, fun i hi _ => ?_⟩
  · rcases Nat.lt_trichotomy i (posS j xs) with h | h | h
    · rw [outS9_lo (by omega) h' (by omega), outS9_lo h hi (by omega)]
      exact q2 i (by omega) h0 (by omega) (by omega)
    · rw [outS9_lo (by omega) h' (by omega), outS9_hi (by omega) hi (by omega)]
      exact inc_all q2 (i + 1) (i - 1) (by omega) (by omega)
    · rw [outS9_hi (by omega) h' (by omega), outS9_hi (by omega) hi (by omega)]
      exact inc_all q2 (i + 1) (i - 1 + 1) (by omega) (by omega)
  · rcases Nat.lt_or_ge i (posS j xs) with h | h
    · rw [outS9_lo h hi (by omega)]
      exact q3 i (by omega) (by omega)
    · rw [outS9_hi h hi (by omega)]
      exact q3 (i + 1) (by omega) (by omega)

theorem bind_back {r : ByteArray} {xs : List SeL} (h : (bindR xs r).c = 0) : okB (bindR xs r).l = true ∧ unbindR (bindR xs r).l r = ⟨xs, 0⟩ := by
  unfold bindR illS at h ⊢
  by_cases h1 : 400 < xs.length ∨ 20000 < r.size
  · rw [if_pos h1] at h; cases h
  rw [if_neg h1] at h ⊢
  by_cases h2 : okB xs = false ∨ resB r = false
  · rw [if_pos h2] at h; cases h
  rw [if_neg h2] at h ⊢
  by_cases h3 : hereB r xs = true
  · rw [if_pos h3] at h; cases h
  rw [if_neg h3] at h ⊢
  by_cases h4 : xs.length = 5
  · rw [if_pos h4] at h; cases h
  rw [if_neg h4]
  have hk : okB xs = true := by cases e : okB xs with
    | true => rfl
    | false => exact absurd (.inl e) h2
  have ha : resB r = true := by cases e : resB r with
    | true => rfl
    | false => exact absurd (.inr e) h2
  have hh : hereB r xs = false := by simpa using h3
  have h5 := (okB_iff.1 hk).1
  have hi := insS_right hk ha hh (by omega)
  have e : xs.take (posS r xs) ++ newS r :: xs.drop (posS r xs) = insS r xs := by unfold insS; simp
  have hlen := insS_len r xs
  show okB (xs.take (posS r xs) ++ newS r :: xs.drop (posS r xs)) = true ∧ unbindR (xs.take (posS r xs) ++ newS r :: xs.drop (posS r xs)) r = ⟨xs, 0⟩
  rw [e]
  refine ⟨hi, ?_⟩
  unfold unbindR
  rw [if_neg (by omega), if_neg (by rw [hi]; decide), if_neg (by rw [insS_here]; decide), insS_pos, insS_out]
theorem unb_right {r : ByteArray} {xs : List SeL} (h : (unbindR xs r).c = 0) : okB (unbindR xs r).l = true := by
  unfold unbindR illS at h ⊢
  by_cases h1 : 400 < xs.length ∨ 20000 < r.size
  · rw [if_pos h1] at h; cases h
  rw [if_neg h1] at h ⊢
  by_cases h2 : okB xs = false
  · rw [if_pos h2] at h; cases h
  rw [if_neg h2] at h ⊢
  by_cases h3 : hereB r xs = false
  · rw [if_pos h3] at h; cases h
  rw [if_neg h3]
  exact outS9_right (by simpa using h2) (by simpa using h3)
/-- What withR answers where it is right. -/
theorem with_is {xs : List SeL} {y : SeL} (h : (withR xs y).c = 0) : ¬ (400 < xs.length ∨ 20000 < y.r.size) ∧ okB xs = true ∧ hereB y.r xs = true ∧ seB y = true ∧ withR xs y = ⟨xs.set (posS y.r xs) y, 0⟩ := by
  unfold withR illS at h
  by_cases h1 : 400 < xs.length ∨ 20000 < y.r.size
  · rw [if_pos h1] at h; cases h
  rw [if_neg h1] at h
  by_cases h2 : okB xs = false
  · rw [if_pos h2] at h; cases h
  rw [if_neg h2] at h
  by_cases h3 : hereB y.r xs = false
  · rw [if_pos h3] at h; cases h
  rw [if_neg h3] at h
  by_cases h4 : seB y = false
  · rw [if_pos h4] at h; cases h
  have q2 : okB xs = true := by simpa using h2
  have q3 : hereB y.r xs = true := by simpa using h3
  refine ⟨h1, q2, q3, by simpa using h4, ?_⟩
  rw [with_ok h1 q2 q3, if_neg h4]
theorem set_res {xs : List SeL} {y : SeL} (h : hereB y.r xs = true) {i : Nat} (hi : i < xs.length) (hi2 : i < (xs.set (posS y.r xs) y).length) : (xs.set (posS y.r xs) y)[i].r = xs[i].r := by
  rw [List.getElem_set]
  split
  · rename_i e
    subst e
    rw [here_at (here_lt h)] at h
    exact (ba_eq (by simpa using h)).symm
  · rfl
theorem set_right {xs : List SeL} {y : SeL} (hk : okB xs = true) (h : hereB y.r xs = true) (hy : seB y = true) : okB (xs.set (posS y.r xs) y) = true := by
  obtain ⟨q1, q2, q3⟩ := okB_iff.1 hk
  have hl : (xs.set (posS y.r xs) y).length = xs.length := List.length_set
  refine okB_true ⟨by omega, fun i hi h0 _ h' => ?_, fun i hi _ => ?_⟩
  · rw [set_res h (by omega) h', set_res h (by omega) hi]
    exact q2 i (by omega) h0 (by omega) (by omega)
  · rw [List.getElem_set]
    split
    · exact hy
    · exact q3 i (by omega) (by omega)
theorem set_pos {xs : List SeL} {y : SeL} (h : hereB y.r xs = true) : posS y.r (xs.set (posS y.r xs) y) = posS y.r xs := by
  have hlt := here_lt h
  have hl : (xs.set (posS y.r xs) y).length = xs.length := List.length_set
  refine pos_eq (by omega) (fun i hi hp => ?_) ?_
  · rw [set_res h (by omega) hi]
    exact pos_lo (by omega) hp
  · rw [set_res h hlt (by omega)]
    exact pos_at hlt
theorem set_here {xs : List SeL} {y : SeL} (h : hereB y.r xs = true) : hereB y.r (xs.set (posS y.r xs) y) = true := by
  have hlt := here_lt h
  have hl : (xs.set (posS y.r xs) y).length = xs.length := List.length_set
  have e := set_pos h
  have h1 : posS y.r (xs.set (posS y.r xs) y) < (xs.set (posS y.r xs) y).length := by omega
  rw [here_at h1]
  have h2 : (xs.set (posS y.r xs) y)[posS y.r (xs.set (posS y.r xs) y)] = y := by
    simp only [e]
    exact List.getElem_set_self ..
  rw [h2]
  exact beq_self_eq_true y.r.toList
theorem with_right {xs : List SeL} {y : SeL} (h : (withR xs y).c = 0) : okB (withR xs y).l = true := by
  obtain ⟨h1, h2, h3, h4, h5⟩ := with_is h
  rw [h5]
  exact set_right h2 h3 h4
theorem abs_pres {xs : List SeL} {r : ByteArray} {p : Int} {s : ByteArray} (h : (presR xs r p s).c = 0) :
    okB (presR xs r p s).l = true ∧ anyR (presR xs r p s).l = true ∧ absR (presR xs r p s).l r = absR xs r := by
  unfold presR at h ⊢
  by_cases h0 : 20000 < s.size
  · rw [if_pos h0] at h; cases h
  rw [if_neg h0] at h ⊢
  obtain ⟨h1, h2, h3, h4, h5⟩ := with_is h
  have hr := with_right h
  have hlt := here_lt h3
  have hres := here_res h2 h3
  have e1 := set_here h3
  have e2 := set_pos h3
  rw [h5] at hr ⊢
  have hl : (xs.set (posS r xs) (⟨r, true, p, s⟩ : SeL)).length = xs.length := List.length_set
  refine ⟨hr, ?_, ?_⟩
  · unfold anyR anyS
    rw [hr, Bool.true_and, List.any_eq_true]
    exact ⟨_, List.mem_iff_getElem.2 ⟨posS r xs, by simpa using hlt, List.getElem_set_self ..⟩, rfl⟩
  · unfold absR
    rw [with_ok (y := newS r) (by simp only [hl]; exact h1) hr e1, with_ok (y := newS r) h1 h2 h3]
    show (if seB (newS r) = false then _ else (⟨(xs.set (posS r xs) ⟨r, true, p, s⟩).set (posS r (xs.set (posS r xs) ⟨r, true, p, s⟩)) (newS r), 0⟩ : SoL)) = _
    rw [show posS r (xs.set (posS r xs) (⟨r, true, p, s⟩ : SeL)) = posS r xs from e2, List.set_set]
    rfl
end Go.Proofs.Ytafdjjdmcnlddaa
