/- Several parts in one text: RowsC, LinesMath, SmState, SmFeedMath, SmTwoMath, SmRight, SmTwo, SmFeedI, SmFeedJ. -/
import Derived.Test.YtgcfognljkebjaaGreatDoorMath
import Derived.WalkSmall
import Derived.Lib.SmallJoins
import Derived.Test.YtgcfognljkebjaaGreatDoorJidReadS
import Derived.Test.YtgcfognljkebjaaGreatDoorSmAllA
import Derived.Test.YtgcfognljkebjaaGreatDoorSmHead
import Derived.Test.YtgcfognljkebjaaGreatDoorJidLow
import Derived.WalkMore
import Derived.Laws.CopyOwn
namespace Go.Proofs.YtgcfognljkebjaaGreatDoor
set_option linter.unusedSimpArgs false
set_option linter.unusedVariables false
open Go.RowKit

theorem arr_keep {B : Nat} {w w' : World} {g t : Nat} {cs : List Value} (h : Arr w g t cs) (hb : Below B w w') (hg : g < B) : Arr w' g t cs := (hb.block g hg).trans h
/-- The slice v, which the call has made, holds these elements. -/
def OwnC {α : Type} (enc : α → List Value) (w : World) (B e size : Nat) (v : Value) (xs : List α) : Prop := w.ownsRow B e size v xs.length (xs.flatMap enc)
theorem ownC_nil {α : Type} (enc : α → List Value) (w : World) (B e size : Nat) : OwnC enc w B e size (.slice none 0 0) [] := World.ownsRow_nil _ _ _ _
theorem OwnC.alloc {α : Type} {enc : α → List Value} {w : World} {B e size : Nat} {v : Value} {xs : List α} (h : OwnC enc w B e size v xs) (o : Obj) : OwnC enc (w.alloc o) B e size v xs := World.ownsRow.alloc h o
theorem OwnC.drew {α : Type} {enc : α → List Value} {w : World} {B e size : Nat} {v : Value} {xs : List α} (h : OwnC enc w B e size v xs) : OwnC enc w.drew B e size v xs := h
theorem OwnC.low {α : Type} {enc : α → List Value} {w : World} {B e size : Nat} {v : Value} {xs : List α} (h : OwnC enc w B e size v xs) {a : Addr} (ha : a.block < B) (u : Value) : OwnC enc (w.setCell a u) B e size v xs := ownsRow_setCell_below h ha u
theorem ownsRow_on {w w' : World} {B e size n : Nat} {v : Value} {xs : List Value} (h : w.ownsRow B e size v n xs) (hb : Below w.heap.size w w') : w'.ownsRow B e size v n xs := by
  refine ⟨h.1, ?_⟩
  rcases h.2 with h0 | ⟨g, cap, cur, h1, h2, h3, h4⟩
  · exact .inl h0
  · have hlt : g < w.heap.size := (Array.getElem?_eq_some_iff.1 h3).1
    exact .inr ⟨g, cap, cur, h1, h2, (hb.block g hlt).trans h3, h4⟩
theorem OwnC.on {α : Type} {enc : α → List Value} {w w' : World} {B e size : Nat} {v : Value} {xs : List α} (h : OwnC enc w B e size v xs) (hb : Below w.heap.size w w') : OwnC enc w' B e size v xs := ownsRow_on h hb
theorem OwnC.mono {α : Type} {enc : α → List Value} {w : World} {B B' e size : Nat} {v : Value} {xs : List α} (h : OwnC enc w B e size v xs) (hB : B' ≤ B) : OwnC enc w B' e size v xs := by
  refine ⟨h.1, ?_⟩
  rcases h.2 with h0 | ⟨g, cap, cur, h1, h2, h3⟩
  · exact .inl h0
  · exact .inr ⟨g, cap, cur, h1, Nat.le_trans hB h2, h3⟩
theorem OwnC.base {α : Type} {enc : α → List Value} {w : World} {B e size : Nat} {v : Value} {xs : List α} (h : OwnC enc w B e size v xs) : ∀ k, v.ownBlock = some k → B ≤ k := own_base h
theorem flat_len {α : Type} {enc : α → List Value} {size : Nat} (hlen : ∀ x, (enc x).length = size) (xs : List α) : (xs.flatMap enc).length = xs.length * size := by
  induction xs with
  | nil => simp
  | cons x xs ih => rw [List.flatMap_cons, List.length_append, hlen, ih, List.length_cons, Nat.add_mul, Nat.one_mul, Nat.add_comm]
theorem flat_at {α : Type} {enc : α → List Value} {size : Nat} (hlen : ∀ x, (enc x).length = size) : ∀ (xs : List α) (i j : Nat) (hi : i < xs.length), j < size → (xs.flatMap enc)[i * size + j]? = (enc xs[i])[j]?
  | x :: xs, 0, j, hi, hj => by
    rw [List.flatMap_cons, Nat.zero_mul, Nat.zero_add, List.getElem?_append_left (by rw [hlen]; exact hj)]
    rfl
  | x :: xs, i + 1, j, hi, hj => by
    rw [List.flatMap_cons, List.getElem?_append_right (by rw [hlen, Nat.add_mul, Nat.one_mul]; omega), hlen, show (i + 1) * size + j - size = i * size + j by rw [Nat.add_mul, Nat.one_mul]; omega]
    exact flat_at hlen xs i j (by simpa using hi) hj
/-- append(v, y). -/
theorem app_C {α : Type} {enc : α → List Value} {e size bytes T : Nat} {z : Value} (hone : ∀ x, ∀ u ∈ enc x, u.oneCell' = true) (hlen : ∀ x, (enc x).length = size)
    (hT : Tryz.prog.underlying T = some (.slice e)) (hinfo : (Tryz.prog.info? e).map (fun i => (i.zero, i.size, i.bytes)) = some (some z, size, bytes)) (hzs : z.cells.size = size) (hsz : 0 < size) (hby : bytes ≤ 1000)
    (w : World) {ops : Array Oper} {rest : List Oper} {o : Oper} {a : Act} {Q : Exit → Act → World → Prop} (hgd : o.guard = none) (s x : Operand)
    (ho : o.op = Op.call { callee := Callee.builtin Builtin.append, args := #[s, x], argTypes := #[T, T] })
    (B : Nat) (v : Value) (xs : List α) (hs : a.eval s = v) (hown : OwnC enc w B e size v xs) (g : Nat) (y : α) (hx : a.eval x = .slice (some ⟨g, 0, none⟩) 1 1) (hA : Arr w g e (enc y)) (hmax : xs.length ≤ 10000000) (hB : B ≤ w.heap.size)
    (h : ∀ v' w', OwnC enc w' B e size v' (xs ++ [y]) → w.grownBy w' v.ownBlock → wpList Tryz.prog ops Q rest (a.put o.dst v') w') : wpList Tryz.prog ops Q (o :: rest) a w := by
  obtain ⟨i0, hi, hz0, hz1, hz2⟩ := info_parts hinfo
  have hmul : (xs.length + 1) * bytes ≤ 10000001 * 1000 := Nat.mul_le_mul (by omega) hby
  refine wpList_append_own w hgd s x T ho B e i0 z size bytes hT hi hz0 hz1 hz2 hzs hsz v xs.length (xs.flatMap enc) hs hown ⟨g, 0, none⟩ 1 1 (enc y) hx (by rw [hlen, Nat.one_mul]) (fun j u hj => ?_) (hone y) (by unfold maxLen; omega) (by omega) hB (fun v' w' h1 h2 _ => h v' w' ?_ h2)
  · rw [show (⟨g, 0, none⟩ : Addr).add j = ⟨g, j, none⟩ by unfold Addr.add; split <;> simp_all, hA.cell]
    exact hj
  · unfold OwnC
    rw [List.length_append, List.flatMap_append]
    simpa using h1
/-- The cells of element i. -/
theorem OwnC.cell {α : Type} {enc : α → List Value} {w : World} {B e size g n cap : Nat} {xs : List α} (hlen : ∀ x, (enc x).length = size) (h : OwnC enc w B e size (.slice (some ⟨g, 0, none⟩) n cap) xs) (i j : Nat) (hi : i < xs.length) (hj : j < size) :
    w.cell? ⟨g, i * size + j, none⟩ = (enc xs[i])[j]? := by
  have h1 := flat_at hlen xs i j hi hj
  obtain ⟨u, hu⟩ : ∃ u, (enc xs[i])[j]? = some u := ⟨(enc xs[i])[j]'(by rw [hlen]; exact hj), List.getElem?_eq_getElem _⟩
  rw [hu] at h1 ⊢
  have := World.ownsRow.cells h (g := g) rfl (i * size + j) u h1
  rw [show (⟨g, 0, none⟩ : Addr).add (i * size + j) = ⟨g, i * size + j, none⟩ by unfold Addr.add; split <;> simp_all] at this
  exact this
/-- A slice from the head of a block, which holds these elements. -/
def RowC {α : Type} (enc : α → List Value) (size : Nat) (w : World) (p : Option Addr) (xs : List α) : Prop := xs ≠ [] → ∃ g, p = some ⟨g, 0, none⟩ ∧ g < w.heap.size ∧ ∀ i (h : i < xs.length) j, j < size → w.cell? ⟨g, i * size + j, none⟩ = (enc xs[i])[j]?
theorem RowC.on {α : Type} {enc : α → List Value} {size : Nat} {w w' : World} {p : Option Addr} {xs : List α} (h : RowC enc size w p xs) (hb : Below w.heap.size w w') : RowC enc size w' p xs := by
  intro hx
  obtain ⟨g, h1, h2, h3⟩ := h hx
  exact ⟨g, h1, Nat.lt_of_lt_of_le h2 hb.size, fun i hi j hj => (hb.cell (p := ⟨g, i * size + j, none⟩) h2).trans (h3 i hi j hj)⟩
theorem OwnC.row {α : Type} {enc : α → List Value} {w : World} {B e size : Nat} {v : Value} {xs : List α} (hlen : ∀ x, (enc x).length = size) (h : OwnC enc w B e size v xs) : ∃ p cap, v = .slice p xs.length cap ∧ RowC enc size w p xs := by
  rcases h.2 with ⟨h0, h1⟩ | ⟨g, cap, cur, h1, h2, h3, h4⟩
  · refine ⟨none, 0, by rw [h0, h1], fun hx => ?_⟩
    exact absurd (List.eq_nil_of_length_eq_zero h1) hx
  · subst h1
    exact ⟨some ⟨g, 0, none⟩, cap, rfl, fun _ => ⟨g, rfl, (Array.getElem?_eq_some_iff.1 h3).1, fun i hi j hj => OwnC.cell hlen h i j hi hj⟩⟩
end Go.Proofs.YtgcfognljkebjaaGreatDoor

namespace Go.Proofs.YtgcfognljkebjaaGreatDoor
set_option linter.unusedSimpArgs false
set_option linter.unusedVariables false

def consH (c : UInt8) : List (List UInt8) → List (List UInt8)
  | [] => [[c]]
  | h :: t => (c :: h) :: t
/-- The lines of a text; the last one has no end. -/
def linesL : List UInt8 → List (List UInt8)
  | [] => [[]]
  | c :: r => if c = 10 then [] :: linesL r else consH c (linesL r)
def iniL (T : List UInt8) : List (List UInt8) := (linesL T).dropLast
def finL (T : List UInt8) : List UInt8 := (linesL T).getLastD []
theorem linesL_end (r : List UInt8) : linesL (10 :: r) = [] :: linesL r := by rw [linesL, if_pos rfl]
theorem linesL_on {c : UInt8} (h : c ≠ 10) (r : List UInt8) : linesL (c :: r) = consH c (linesL r) := by rw [linesL, if_neg h]
theorem linesL_ne : ∀ T, linesL T ≠ []
  | [] => by simp [linesL]
  | c :: r => by
    by_cases h : c = 10
    · subst h; rw [linesL_end]; simp
    · rw [linesL_on h]
      cases linesL r <;> simp [consH]
theorem getLastD_eq {α : Type} (l : List α) (d : α) (h : l ≠ []) : l.dropLast ++ [l.getLastD d] = l := by
  rw [List.getLastD_eq_getLast?, List.getLast?_eq_some_getLast h]
  exact List.dropLast_concat_getLast h
theorem lines_eq (T : List UInt8) : linesL T = iniL T ++ [finL T] := (getLastD_eq _ _ (linesL_ne T)).symm
theorem lines_one : ∀ (A : List UInt8), (∀ x ∈ A, x ≠ 10) → linesL A = [A]
  | [], _ => rfl
  | c :: r, h => by
    rw [linesL_on (h c (List.mem_cons_self ..)), lines_one r (fun x hx => h x (List.mem_cons_of_mem _ hx))]
    rfl
theorem lines_more : ∀ (A R : List UInt8), (∀ x ∈ A, x ≠ 10) → linesL (A ++ 10 :: R) = A :: linesL R
  | [], R, _ => linesL_end R
  | c :: r, R, h => by
    rw [List.cons_append, linesL_on (h c (List.mem_cons_self ..)), lines_more r R (fun x hx => h x (List.mem_cons_of_mem _ hx))]
    rfl
theorem part_ten (T : List UInt8) : (∀ x ∈ T, x ≠ 10) ∨ ∃ A R, T = A ++ 10 :: R ∧ ∀ x ∈ A, x ≠ 10 := by
  induction T with
  | nil => left; intro x hx; cases hx
  | cons c r ih =>
    by_cases h : c = 10
    · subst h
      exact .inr ⟨[], r, rfl, fun x hx => by cases hx⟩
    · rcases ih with h1 | ⟨A, R, rfl, h1⟩
      · left
        intro x hx
        rcases List.mem_cons.1 hx with rfl | hx
        · exact h
        · exact h1 x hx
      · refine .inr ⟨c :: A, R, rfl, fun x hx => ?_⟩
        rcases List.mem_cons.1 hx with rfl | hx
        · exact h
        · exact h1 x hx
theorem lines_app : ∀ (A B : List UInt8), linesL (A ++ B) = iniL A ++ linesL (finL A ++ B)
  | [], B => rfl
  | c :: r, B => by
    have ih := lines_app r B
    by_cases h : c = 10
    · subst h
      rw [List.cons_append, linesL_end, ih]
      unfold iniL finL
      rw [linesL_end]
      have hn := linesL_ne r
      cases hl : linesL r with
      | nil => exact absurd hl hn
      | cons x l => simp
    · rw [List.cons_append, linesL_on h, ih]
      unfold iniL finL
      rw [linesL_on h]
      have hn := linesL_ne r
      cases hl : linesL r with
      | nil => exact absurd hl hn
      | cons x l =>
        cases l with
        | nil => simp [consH, linesL_on h]
        | cons y l => simp [consH]
theorem iniL_app (A B : List UInt8) : iniL (A ++ B) = iniL A ++ iniL (finL A ++ B) := by
  unfold iniL
  rw [lines_app, List.dropLast_append_of_ne_nil (linesL_ne _)]
  rfl
theorem finL_app (A B : List UInt8) : finL (A ++ B) = finL (finL A ++ B) := by
  have h1 := lines_eq (A ++ B)
  rw [lines_app, iniL_app, lines_eq (finL A ++ B), ← List.append_assoc] at h1
  have := List.append_cancel_left h1
  simpa using this.symm
theorem linesL_no : ∀ (T : List UInt8), ∀ l ∈ linesL T, ∀ x ∈ l, x ≠ 10
  | [], l, hl, x, hx => by
    simp [linesL] at hl
    subst hl
    cases hx
  | c :: r, l, hl, x, hx => by
    by_cases h : c = 10
    · subst h
      rw [linesL_end] at hl
      rcases List.mem_cons.1 hl with rfl | hl
      · cases hx
      · exact linesL_no r l hl x hx
    · rw [linesL_on h] at hl
      have ih := linesL_no r
      cases hr : linesL r with
      | nil => exact absurd hr (linesL_ne r)
      | cons y t =>
        rw [hr] at hl ih
        rcases List.mem_cons.1 hl with rfl | hl
        · rcases List.mem_cons.1 hx with rfl | hx
          · exact h
          · exact ih y (List.mem_cons_self ..) x hx
        · exact ih l (List.mem_cons_of_mem _ hl) x hx
theorem finL_no (T : List UInt8) : ∀ x ∈ finL T, x ≠ 10 := linesL_no T _ (by rw [lines_eq T]; simp)
theorem linesL_le : ∀ (T : List UInt8), ∀ l ∈ linesL T, l.length ≤ T.length
  | [], l, hl => by
    simp [linesL] at hl
    subst hl
    simp
  | c :: r, l, hl => by
    have ih := linesL_le r
    by_cases h : c = 10
    · subst h
      rw [linesL_end] at hl
      rcases List.mem_cons.1 hl with rfl | hl
      · simp
      · have := ih l hl
        simp
        omega
    · rw [linesL_on h] at hl
      cases hr : linesL r with
      | nil => exact absurd hr (linesL_ne r)
      | cons y t =>
        rw [hr] at hl ih
        rcases List.mem_cons.1 hl with rfl | hl
        · have := ih y (List.mem_cons_self ..)
          simp
          omega
        · have := ih l (List.mem_cons_of_mem _ hl)
          simp
          omega
theorem linesL_len : ∀ (T : List UInt8), (linesL T).length ≤ T.length + 1
  | [] => by simp [linesL]
  | c :: r => by
    have ih := linesL_len r
    by_cases h : c = 10
    · subst h
      rw [linesL_end]
      simp
      omega
    · rw [linesL_on h]
      cases hr : linesL r with
      | nil => exact absurd hr (linesL_ne r)
      | cons y t =>
        rw [hr] at ih
        simp [consH] at ih ⊢
        omega
end Go.Proofs.YtgcfognljkebjaaGreatDoor

namespace Go.Proofs.YtgcfognljkebjaaGreatDoor
set_option linter.unusedSimpArgs false
set_option linter.unusedVariables false
open Go.RowKit Go.Joins

/-- A stream without its rest. -/
structure SmS where
  f : List UInt8
  o : List UInt8
  n : Int
  op : Bool
  cl : Bool
  de : Bool
def zeroS : SmS := ⟨[], [], 0, false, false, false⟩
/-- A stream's cells, its value. -/
def smC (s : SmS) (R : List UInt8) : List Value := [.string (strOf s.f), .string (strOf s.o), .int .i64 s.n, .string (strOf R), .bool s.op, .bool s.cl, .bool s.de]
def smLV (s : SmS) (R : List UInt8) : Value := .agg #[.string (strOf s.f), .string (strOf s.o), .int .i64 s.n, .string (strOf R), .bool s.op, .bool s.cl, .bool s.de]
/-- A box of the argument, a box of the answer. -/
def WBox (w W : World) (c : List Value) : Prop := Arr W w.heap.size 29 c ∧ Arr W (w.heap.size + 1) 29 (smC zeroS []) ∧ Below w.heap.size w W
theorem WBox.on {w W W2 : World} {c : List Value} (h : WBox w W c) (hb : Below W.heap.size W W2) : WBox w W2 c := ⟨arr_below h.1 hb, arr_below h.2.1 hb, h.2.2.trans (hb.mono h.2.2.size)⟩
theorem WBox.put {w W : World} {c : List Value} (h : WBox w W c) (i : Nat) (v : Value) : WBox w (W.setCell ⟨w.heap.size, i, none⟩ v) (c.set i v) :=
  ⟨h.1.put i v, arr_other h.2.1 _ _ _ (by omega), h.2.2.setCell (p := ⟨w.heap.size, i, none⟩) (Nat.le_refl _) v⟩
theorem WBox.start (w : World) (s : SmS) (R : List UInt8) : WBox w ((w.alloc (.cells #[.string (strOf s.f), .string (strOf s.o), .int .i64 s.n, .string (strOf R), .bool s.op, .bool s.cl, .bool s.de] 29)).alloc (.cells #[.string ⟨#[]⟩, .string ⟨#[]⟩, .int .i64 0, .string ⟨#[]⟩, .bool false, .bool false, .bool false] 29)) (smC s R) := by
  have h1 : Arr (w.alloc (.cells (smC s R).toArray 29)) w.heap.size 29 (smC s R) := Arr.fresh w _ _
  have h2 := Arr.fresh (w.alloc (.cells (smC s R).toArray 29)) 29 (smC zeroS [])
  rw [World.size_alloc] at h2
  exact ⟨arr_alloc h1 _, h2, ((Below.refl _ _).alloc (Nat.le_refl _) _).alloc (by simp) _⟩
theorem one_third (w : World) (o1 o2 : Obj) (s : ByteArray) (t : Nat) : (((w.alloc o1).alloc o2).alloc (.cells #[.string s] t)).cell? ⟨w.heap.size + 1 + 1, 0, none⟩ = some (.string s) := by
  have := one_at ((w.alloc o1).alloc o2) s t
  rw [World.size_alloc, World.size_alloc] at this
  exact this
theorem one_set (w : World) (a : Addr) (u : Value) (s : ByteArray) (t : Nat) : ((w.setCell a u).alloc (.cells #[.string s] t)).cell? ⟨w.heap.size, 0, none⟩ = some (.string s) := by
  have := one_at (w.setCell a u) s t
  rw [show (w.setCell a u).heap.size = w.heap.size by simp [World.setCell]] at this
  exact this
theorem arr_sev {w : World} {g t : Nat} {a b c d e f h : Value} (hA : Arr w g t [a, b, c, d, e, f, h]) : (w.cell? ⟨g, 0, none⟩ = some a ∧ w.cell? ⟨g, 1, none⟩ = some b ∧ w.cell? ⟨g, 2, none⟩ = some c ∧ w.cell? ⟨g, 3, none⟩ = some d ∧ w.cell? ⟨g, 4, none⟩ = some e ∧ w.cell? ⟨g, 5, none⟩ = some f ∧ w.cell? ⟨g, 6, none⟩ = some h) ∧
    w.frozen? ⟨g, 0, none⟩ = false ∧ w.frozen? ⟨g, 1, none⟩ = false ∧ w.frozen? ⟨g, 2, none⟩ = false ∧ w.frozen? ⟨g, 3, none⟩ = false ∧ w.frozen? ⟨g, 4, none⟩ = false ∧ w.frozen? ⟨g, 5, none⟩ = false ∧ w.frozen? ⟨g, 6, none⟩ = false :=
  ⟨⟨hA.cell 0, hA.cell 1, hA.cell 2, hA.cell 3, hA.cell 4, hA.cell 5, hA.cell 6⟩, hA.free 0, hA.free 1, hA.free 2, hA.free 3, hA.free 4, hA.free 5, hA.free 6⟩
theorem below_set7s {B g : Nat} {w w1 : World} (hb : Below B w w1) (hg : B ≤ g) (a b c d e f h : Value) : Below B w (((((((w1.setCell ⟨g, 0, none⟩ a).setCell ⟨g, 1, none⟩ b).setCell ⟨g, 2, none⟩ c).setCell ⟨g, 3, none⟩ d).setCell ⟨g, 4, none⟩ e).setCell ⟨g, 5, none⟩ f).setCell ⟨g, 6, none⟩ h) :=
  ((((((hb.setCell (p := ⟨g, 0, none⟩) hg a).setCell (p := ⟨g, 1, none⟩) hg b).setCell (p := ⟨g, 2, none⟩) hg c).setCell (p := ⟨g, 3, none⟩) hg d).setCell (p := ⟨g, 4, none⟩) hg e).setCell (p := ⟨g, 5, none⟩) hg f).setCell (p := ⟨g, 6, none⟩) hg h
theorem arr_put7 {w : World} {g t : Nat} {x0 x1 x2 x3 x4 x5 x6 : Value} (hA : Arr w g t [x0, x1, x2, x3, x4, x5, x6]) (a b c d e f h : Value) : Arr (((((((w.setCell ⟨g, 0, none⟩ a).setCell ⟨g, 1, none⟩ b).setCell ⟨g, 2, none⟩ c).setCell ⟨g, 3, none⟩ d).setCell ⟨g, 4, none⟩ e).setCell ⟨g, 5, none⟩ f).setCell ⟨g, 6, none⟩ h) g t [a, b, c, d, e, f, h] :=
  ((((((hA.put 0 a).put 1 b).put 2 c).put 3 d).put 4 e).put 5 f).put 6 h
theorem below_new {B : Nat} {w w1 : World} (o : Obj) (hB : B ≤ w.heap.size) (h : Below (w.alloc o).heap.size (w.alloc o) w1) : Below B w w1 := ((Below.refl B w).alloc hB o).trans (h.mono (by simp; omega))
set_option maxRecDepth 100000 in
set_option maxHeartbeats 1000000 in
theorem impl_without (s : SmS) (R : List UInt8) (w : World) (hf : s.f.length ≤ 2000000) (ho : s.o.length ≤ 2000000) :
    Calls Tryz.prog 28 #[smLV s R] w fun e w' => e = .returned (smLV s []) ∧ Below w.heap.size w w' := by
  have HB := Lib.hid (WBox.start w s R)
  have hf' : (strOf s.f).size ≤ 2000000 := by rw [strOf_size]; exact hf
  have ho' : (strOf s.o).size ≤ 2000000 := by rw [strOf_size]; exact ho
  clear hf ho
  unfold smLV
  go_enter Tryz.func28, Tryz.ntmps28
  go_wp2_with (first
    | (go_at_call 26; go_fit (joined_at (w.heap.size + 1 + 1) (strOf s.f) _ hf' (one_third _ _ _ _ _)); rintro e w1 ⟨rfl, hb1⟩; have h1 := HB.out.on (below_new _ (Nat.le_refl _) hb1); clear hb1; obtain ⟨⟨c0, c1, c2, c3, c4, c5, c6⟩, g0, g1, g2, g3, g4, g5, g6⟩ := arr_sev h1.1)
    | (go_at_call 26; go_fit (joined_at w1.heap.size (strOf s.o) _ ho' (one_set _ _ _ _ _)); rintro e w2 ⟨rfl, hb2⟩; have h2 := (h1.put 0 (.string (strOf s.f))).on (below_new _ (Nat.le_refl _) hb2); clear hb2; obtain ⟨⟨p0, p1, p2, p3, p4, p5, p6⟩, q0, q1, q2, q3, q4, q5, q6⟩ := arr_sev h2.1; obtain ⟨⟨r0, r1, r2, r3, r4, r5, r6⟩, t0, t1, t2, t3, t4, t5, t6⟩ := arr_sev h2.2.1))
  exact bodyPost_ret (v := smLV s []) (results_cell_row (P := Tryz.prog) Tryz.results28 _ _ (w.heap.size + 1) 29 _ (0, 0) _ rfl (arr_put7 ((h2.put 1 (.string (strOf s.o))).put 3 (.string ⟨#[]⟩)).2.1 _ _ _ _ _ _ _) Tryz.underlying29 rfl (by kernel_rfl)) rfl ⟨rfl, below_set7s ((h2.put 1 (.string (strOf s.o))).put 3 (.string ⟨#[]⟩)).2.2 (Nat.le_succ _) _ _ _ _ _ _ _⟩
set_option maxRecDepth 100000 in
set_option maxHeartbeats 1000000 in
theorem impl_with (s : SmS) (R : List UInt8) (w : World) (hR : R.length ≤ 2000000) :
    Calls Tryz.prog 29 #[smLV s [], .string (strOf R)] w fun e w' => e = .returned (if s.cl = true ∨ s.de = true then smLV s [] else if 4000 < R.length then smLV ⟨s.f, s.o, s.n, s.op, s.cl, true⟩ [] else smLV s R) ∧ Below w.heap.size w w' := by
  have HB := Lib.hid (WBox.start w s [])
  have hR' : (strOf R).size ≤ 2000000 := by rw [strOf_size]; exact hR
  rcases s with ⟨f, o, n, op, cl, de⟩
  dsimp only at HB ⊢
  unfold smLV
  cases cl <;> cases de
  case false.false =>
    rw [if_neg (by simp)]
    by_cases hl : 4000 < R.length
    · rw [if_pos hl]
      have hl2 : 4000 < (strOf R).size := by rw [strOf_size]; exact hl
      clear hl hR
      go_enter Tryz.func29, Tryz.ntmps29
      go_wp2
      exact bodyPost_ret (v := smLV ⟨f, o, n, op, false, true⟩ []) (by simp [results, Tryz.results29, go_sem, smLV, strOf]) rfl ⟨rfl, ((Below.refl _ _).alloc (Nat.le_refl _) _).alloc (by simp) _⟩
    · rw [if_neg hl]
      have hl2 : ¬ 4000 < (strOf R).size := by rw [strOf_size]; exact hl
      clear hl hR
      go_enter Tryz.func29, Tryz.ntmps29
      go_wp2_with (go_at_call 26; go_fit (joined_at (w.heap.size + 1 + 1) (strOf R) _ hR' (one_third _ _ _ _ _)); rintro e w1 ⟨rfl, hb1⟩; have h1 := HB.out.on (below_new _ (Nat.le_refl _) hb1); clear hb1; obtain ⟨⟨p0, p1, p2, p3, p4, p5, p6⟩, q0, q1, q2, q3, q4, q5, q6⟩ := arr_sev h1.1; obtain ⟨⟨r0, r1, r2, r3, r4, r5, r6⟩, t0, t1, t2, t3, t4, t5, t6⟩ := arr_sev h1.2.1)
      exact bodyPost_ret (v := smLV ⟨f, o, n, op, false, false⟩ R) (results_cell_row (P := Tryz.prog) Tryz.results29 _ _ (w.heap.size + 1) 29 _ (0, 0) _ rfl (arr_put7 (h1.put 3 (.string (strOf R))).2.1 _ _ _ _ _ _ _) Tryz.underlying29 rfl (by kernel_rfl)) rfl ⟨rfl, below_set7s (h1.put 3 (.string (strOf R))).2.2 (Nat.le_succ _) _ _ _ _ _ _ _⟩
  all_goals
    rw [if_pos (by simp)]
    clear hR hR' HB
    go_enter Tryz.func29, Tryz.ntmps29
    go_wp2
    exact bodyPost_ret (by simp [results, Tryz.results29, go_sem, strOf]) rfl ⟨rfl, ((Below.refl _ _).alloc (Nat.le_refl _) _).alloc (by simp) _⟩
end Go.Proofs.YtgcfognljkebjaaGreatDoor

namespace Go.Proofs.YtgcfognljkebjaaGreatDoor
set_option linter.unusedSimpArgs false
set_option linter.unusedVariables false
open Go.Joins

/-- What a line of this kind makes of a stream, and the stanza that it yields. -/
def actK (s : SmS) : LineK → SmS × List StL
  | .empty => (s, [])
  | .head f o n => (⟨f, o, n, true, s.cl, s.de⟩, [])
  | .stanza x => (s, [x])
  | .close => (⟨s.f, s.o, s.n, s.op, true, s.de⟩, [])
  | .wrong => (⟨s.f, s.o, s.n, s.op, s.cl, true⟩, [])
noncomputable def stepK (s : SmS) (T : List UInt8) : SmS × List StL := actK s (nextK s.op s.cl (lineK T))
noncomputable def feedK (s : SmS) : List (List UInt8) → SmS × List StL
  | [] => (s, [])
  | T :: r => if (stepK s T).1.de = true then stepK s T else ((feedK (stepK s T).1 r).1, (stepK s T).2 ++ (feedK (stepK s T).1 r).2)
theorem feedK_nil (s : SmS) : feedK s [] = (s, []) := rfl
theorem feedK_dead {s : SmS} {T : List UInt8} (r : List (List UInt8)) (h : (stepK s T).1.de = true) : feedK s (T :: r) = stepK s T := by
  rw [feedK, if_pos h]
theorem feedK_on {s : SmS} {T : List UInt8} (r : List (List UInt8)) (h : (stepK s T).1.de = false) : feedK s (T :: r) = ((feedK (stepK s T).1 r).1, (stepK s T).2 ++ (feedK (stepK s T).1 r).2) := by
  rw [feedK, if_neg (by rw [h]; exact Bool.false_ne_true)]
theorem okX_pre {x : StL} {T : List UInt8} (h : okX x T) : ∃ k ∈ kindsL, (60 :: k).isPrefixOf T = true := by
  obtain ⟨h1, h2⟩ := h
  unfold stB at h1
  simp only [Bool.and_eq_true] at h1
  obtain ⟨⟨⟨⟨⟨hk, _⟩, _⟩, _⟩, _⟩, _⟩ := h1
  have hk2 : x.k ∈ kindsL := by
    have e : x.k = (strOf x.k).data.toList := (strOf_data _).symm
    rcases kind_cases hk with h | h | h | h <;> (rw [e, h]; simp [kindsL])
  refine ⟨x.k, hk2, ?_⟩
  rw [← h2]
  refine List.isPrefixOf_iff_prefix.2 ?_
  unfold markL headL
  simp only [List.cons_append, List.append_assoc, List.nil_append]
  exact ⟨_, rfl⟩
theorem okH_close {f o : List UInt8} {n : Int} {T : List UInt8} (h : okH f o n T) : T ≠ [] ∧ T ≠ closeL := by
  have h1 := (okH_S h).1
  constructor
  · rintro rfl
    simp [wStream, List.isPrefixOf] at h1
  · rintro rfl
    simp [wStream, closeL, List.isPrefixOf] at h1
theorem lineK_head {f o : List UInt8} {n : Int} {T : List UInt8} (h : okH f o n T) : lineK T = .head f o n := by
  obtain ⟨h0, h1⟩ := okH_close h
  obtain ⟨e1, e2, e3⟩ := hdF_of h
  unfold lineK
  rw [if_neg h0, if_neg h1, if_neg, e1, e2, e3, if_pos h]
  rintro ⟨_, hx⟩
  obtain ⟨k, hk, hp⟩ := okX_pre hx
  rw [hdT_no h k hk] at hp
  cases hp
theorem lineK_no {T : List UInt8} (h : ∀ f o n, ¬ okH f o n T) : ∀ f o n, lineK T ≠ .head f o n := by
  intro f o n
  unfold lineK
  split
  · intro h; cases h
  · split
    · intro h; cases h
    · split
      · intro h; cases h
      · rw [if_neg (h _ _ _)]
        intro h; cases h
/-- A line of a stream that is not open yet. -/
theorem next_shut {T f o : List UInt8} {n : Int} {b : Bool} (cl : Bool) (hT : T ≠ []) (h : HeadAns T f o n b) : nextK false cl (lineK T) = bif b then .head f o n else .wrong := by
  cases b with
  | true => rw [lineK_head (h.1 rfl)]; rfl
  | false =>
    have hno : ∀ f o n, ¬ okH f o n T := fun f' o' n' h' => by have := h.2 ⟨f', o', n', h'⟩; cases this
    have h2 := lineK_no hno
    have h3 : lineK T ≠ .empty := by
      unfold lineK
      rw [if_neg hT]
      repeat' split
      all_goals (intro h; cases h)
    cases hk : lineK T with
    | empty => exact absurd hk h3
    | head f o n => exact absurd hk (h2 f o n)
    | close => rfl
    | stanza x => rfl
    | wrong => rfl
theorem next_closed {T : List UInt8} (hT : T ≠ []) : nextK true true (lineK T) = .wrong := by
  have h3 : lineK T ≠ .empty := by
    unfold lineK
    rw [if_neg hT]
    repeat' split
    all_goals (intro h; cases h)
  cases hk : lineK T with
  | empty => exact absurd hk h3
  | head f o n => rfl
  | close => rfl
  | stanza x => rfl
  | wrong => rfl
theorem next_close : nextK true false (lineK closeL) = .close := by
  unfold lineK
  rw [if_neg (by decide), if_pos rfl]
  rfl
theorem next_empty (op cl : Bool) : nextK op cl (lineK []) = .empty := by
  unfold lineK
  rw [if_pos rfl]
  rfl
theorem next_stanza {T : List UInt8} (hT : T ≠ []) (hc : T ≠ closeL) (h : T.length ≤ 20000 ∧ okX (rdS T) T) : nextK true false (lineK T) = .stanza (rdS T) := by
  unfold lineK
  rw [if_neg hT, if_neg hc, if_pos h]
  rfl
theorem next_none {T : List UInt8} (hT : T ≠ []) (hc : T ≠ closeL) (h : ¬ (T.length ≤ 20000 ∧ okX (rdS T) T)) : nextK true false (lineK T) = .wrong := by
  unfold lineK
  rw [if_neg hT, if_neg hc, if_neg h]
  split <;> rfl
end Go.Proofs.YtgcfognljkebjaaGreatDoor

namespace Go.Proofs.YtgcfognljkebjaaGreatDoor
set_option linter.unusedSimpArgs false
set_option linter.unusedVariables false
open Go.Joins

theorem split_lines : ∀ (n : Nat) (T : List UInt8), T.length ≤ n → Lib.split T [10] = linesL T := by
  intro n
  induction n with
  | zero =>
    intro T h
    obtain rfl : T = [] := List.eq_nil_of_length_eq_zero (by omega)
    rw [split_one (by intro x hx; cases hx)]
    rfl
  | succ n ih =>
    intro T h
    rcases part_ten T with h1 | ⟨A, R, rfl, h1⟩
    · rw [split_one h1, lines_one T h1]
    · rw [split_more h1, lines_more A R h1, ih R (by simp at h; omega)]
theorem splitL (T : List UInt8) : Lib.split T [10] = linesL T := split_lines _ T (Nat.le_refl _)
/-! ### Feeding -/
theorem feedK_app (l2 : List (List UInt8)) : ∀ (l1 : List (List UInt8)) (s : SmS), s.de = false →
    feedK s (l1 ++ l2) = if (feedK s l1).1.de = true then feedK s l1 else ((feedK (feedK s l1).1 l2).1, (feedK s l1).2 ++ (feedK (feedK s l1).1 l2).2)
  | [], s, hs => by
    rw [List.nil_append, feedK_nil, if_neg (by show ¬ s.de = true; rw [hs]; exact Bool.false_ne_true)]
    rfl
  | T :: r, s, hs => by
    rw [List.cons_append]
    cases hd : (stepK s T).1.de with
    | true => rw [feedK_dead _ hd, feedK_dead _ hd, if_pos hd]
    | false =>
      rw [feedK_on _ hd, feedK_on _ hd, feedK_app l2 r _ hd]
      dsimp only
      split
      · rfl
      · dsimp only
        rw [List.append_assoc]
/-- A stream that is valid but for its rest. -/
def okS (s : SmS) : Prop := (s.op = true → hdB (strOf s.f) (strOf s.o) s.n = true) ∧ (s.op = false → s.f = [] ∧ s.o = [] ∧ s.n = 0 ∧ s.cl = false)
theorem lineK_okH {T f o : List UInt8} {n : Int} (h : lineK T = .head f o n) : okH f o n T := by
  unfold lineK at h
  split at h
  · cases h
  · split at h
    · cases h
    · split at h
      · cases h
      · split at h
        · rename_i hx
          injection h with e1 e2 e3
          rw [← e1, ← e2, ← e3]
          exact hx
        · cases h
theorem stepK_ok {s : SmS} (h : okS s) (T : List UInt8) : okS (stepK s T).1 := by
  unfold stepK nextK
  cases hk : lineK T with
  | empty => exact h
  | wrong => exact h
  | stanza x =>
    split
    · exact h
    · exact h
  | close =>
    split
    · rename_i hf
      unfold follows at hf
      rw [Bool.and_eq_true] at hf
      exact ⟨h.1, fun e => by have : s.op = false := e; rw [hf.1] at this; cases this⟩
    · exact h
  | head f o n =>
    split
    · exact ⟨fun _ => (lineK_okH hk).1, fun e => by cases e⟩
    · exact h
theorem feedK_ok : ∀ (l : List (List UInt8)) (s : SmS), okS s → okS (feedK s l).1
  | [], s, h => h
  | T :: r, s, h => by
    cases hd : (stepK s T).1.de with
    | true => rw [feedK_dead _ hd]; exact stepK_ok h T
    | false => rw [feedK_on _ hd]; exact feedK_ok r _ (stepK_ok h T)
/-- A closed stream yields nothing more. -/
theorem stepK_closed {s : SmS} (hc : s.cl = true) (ho : s.op = true) (T : List UInt8) : (stepK s T).2 = [] ∧ (stepK s T).1.cl = true ∧ (stepK s T).1.op = true := by
  by_cases hT : T = []
  · subst hT
    unfold stepK
    rw [next_empty]
    exact ⟨rfl, hc, ho⟩
  · unfold stepK
    rw [hc, ho, next_closed hT]
    exact ⟨rfl, hc, ho⟩
theorem feedK_closed : ∀ (l : List (List UInt8)) (s : SmS), s.cl = true → s.op = true → (feedK s l).2 = [] ∧ (feedK s l).1.cl = true ∧ (feedK s l).1.op = true
  | [], s, hc, ho => ⟨rfl, hc, ho⟩
  | T :: r, s, hc, ho => by
    obtain ⟨h1, h2, h3⟩ := stepK_closed hc ho T
    cases hd : (stepK s T).1.de with
    | true => rw [feedK_dead _ hd]; exact ⟨h1, h2, h3⟩
    | false =>
      rw [feedK_on _ hd]
      obtain ⟨h4, h5, h6⟩ := feedK_closed r _ h2 h3
      exact ⟨by rw [h1, h4]; rfl, h5, h6⟩
end Go.Proofs.YtgcfognljkebjaaGreatDoor

namespace Go.Proofs.YtgcfognljkebjaaGreatDoor
set_option linter.unusedSimpArgs false
set_option linter.unusedVariables false
open Go.RowKit

def zeroH (f o : ByteArray) (n : Int) : Bool := decide (f.toList = []) && decide (o.toList = []) && decide (n = 0)
/-- A valid stream. -/
noncomputable def smB (f o : ByteArray) (n : Int) (r : ByteArray) (op cl de : Bool) : Bool :=
  decide (r.size ≤ 4000) && !Lib.contains r.data.toList [10] && (bif op then hdB f o n else zeroH f o n) && !((cl || de) && !r.toList.isEmpty) && (op || !cl)
theorem box_seven {w w1 : World} {a b c d e f g : Value} {t : Nat} (h : Below (w.alloc (.cells #[a, b, c, d, e, f, g] t)).heap.size (w.alloc (.cells #[a, b, c, d, e, f, g] t)) w1) :
    w1.cell? ⟨w.heap.size, 0, none⟩ = some a ∧ w1.cell? ⟨w.heap.size, 1, none⟩ = some b ∧ w1.cell? ⟨w.heap.size, 2, none⟩ = some c ∧ w1.cell? ⟨w.heap.size, 3, none⟩ = some d ∧ w1.cell? ⟨w.heap.size, 4, none⟩ = some e ∧ w1.cell? ⟨w.heap.size, 5, none⟩ = some f ∧ w1.cell? ⟨w.heap.size, 6, none⟩ = some g := by
  have hA : Arr w1 w.heap.size t [a, b, c, d, e, f, g] := (h.block w.heap.size (by simp)).trans (Arr.fresh w t [a, b, c, d, e, f, g])
  exact ⟨hA.cell 0, hA.cell 1, hA.cell 2, hA.cell 3, hA.cell 4, hA.cell 5, hA.cell 6⟩
set_option maxRecDepth 100000 in
set_option maxHeartbeats 2000000 in
theorem impl_smright (f o : ByteArray) (n : Int) (r : ByteArray) (op cl de : Bool) (w : World) (hf : f.size ≤ maxLen) (ho : o.size ≤ maxLen) (hr : r.size ≤ maxLen) (hm : MaxL w) :
    Calls Tryz.prog 15 #[.agg #[.string f, .string o, .int .i64 n, .string r, .bool op, .bool cl, .bool de]] w fun e w' => e = .returned (.bool (smB f o n r op cl de)) ∧ Below w.heap.size w w' := by
  have i1 := fun w => impl_head f o n w hf ho
  have HM := Lib.hid (fun o => hd_max hm o)
  clear hm
  unfold maxLen at hr
  unfold smB
  by_cases h4 : 4000 < r.size
  · rw [show decide (r.size ≤ 4000) = false by simp; omega]
    go_enter Tryz.func15, Tryz.ntmps15
    go_wp2
    go_ret
    exact ⟨ret_bool (by simp), (Below.refl _ _).alloc (Nat.le_refl _) _⟩
  · rw [show decide (r.size ≤ 4000) = true by simp; omega]
    obtain ⟨cb, hcb⟩ : ∃ b, Lib.contains r.data.toList [10] = b := ⟨_, rfl⟩
    rw [hcb]
    have i2 : ∀ w, MaxL w → Calls Tryz.prog 41 #[.string r, .string ⟨#[10]⟩] w fun e w' => e = .returned (.bool cb) ∧ w' = w := by
      intro w hm
      obtain ⟨m, hm⟩ := hm
      rw [← hcb]
      exact Tryz.strings_Contains r ⟨#[10]⟩ m w (by omega) hm
    clear hcb
    cases cb
    case true =>
      go_enter Tryz.func15, Tryz.ntmps15
      go_wp2_with (go_at_call 41; go_fit (i2 _ (HM.out _)); rintro e w' ⟨rfl, rfl⟩)
      go_ret
      exact ⟨ret_bool (by simp), (Below.refl _ _).alloc (Nat.le_refl _) _⟩
    case false =>
      cases op
      case true =>
        obtain ⟨hb, hhb⟩ : ∃ b, hdB f o n = b := ⟨_, rfl⟩
        rw [hhb] at i1
        rw [Bool.cond_true, hhb]
        clear hhb
        have HK := Lib.hid (fun W (h : Below (w.alloc (.cells #[.string f, .string o, .int .i64 n, .string r, .bool true, .bool cl, .bool de] 29)).heap.size (w.alloc (.cells #[.string f, .string o, .int .i64 n, .string r, .bool true, .bool cl, .bool de] 29)) W) => box_seven h)
        cases hb <;>
          (go_enter Tryz.func15, Tryz.ntmps15
           go_wp2_with (first
             | (go_at_call 41; go_fit (i2 _ (HM.out _)); rintro e w' ⟨rfl, rfl⟩)
             | (go_at_call 42; go_fit (i1 _ (HM.out _)); rintro e w' ⟨rfl, hb⟩; obtain ⟨c0, c1, c2, c3, c4, c5, c6⟩ := HK.out _ hb))
           all_goals
             go_ret
             first
               | exact ⟨ret_bool (by simp [*]), below_one hb⟩
               | exact ⟨ret_bool (by simp [*]), (Below.refl _ _).alloc (Nat.le_refl _) _⟩)
      case false =>
        rw [Bool.cond_false]
        unfold zeroH
        go_enter Tryz.func15, Tryz.ntmps15
        go_wp2_with (first
               | (go_at_call 41; go_fit (i2 _ (HM.out _)); rintro e w' ⟨rfl, rfl⟩))
        all_goals
          go_ret
          exact ⟨ret_bool (by simp [*]), (Below.refl _ _).alloc (Nat.le_refl _) _⟩
set_option maxRecDepth 100000 in
set_option maxHeartbeats 2000000 in
theorem spec_smright (f o : ByteArray) (n : Int) (r : ByteArray) (op cl de : Bool) (w : World) (hf : f.size ≤ maxLen) (ho : o.size ≤ maxLen) (hr : r.size ≤ maxLen) :
    Calls Tryz.prog 16 #[.agg #[.string f, .string o, .int .i64 n, .string r, .bool op, .bool cl, .bool de]] w fun e w' => e = .returned (.bool (smB f o n r op cl de)) ∧ Below w.heap.size w w' := by
  have i1 := fun w => spec_head f o n w hf ho
  have i2 : ∀ w, Calls Tryz.prog 43 #[.string r, .int .u8 10] w fun e w' => e = .returned (.int .i64 (Lib.index r.data.toList [10])) ∧ w = w' := fun w => spec_at r 10 w hr
  unfold maxLen at hr
  unfold smB
  by_cases h4 : 4000 < r.size
  · rw [show decide (r.size ≤ 4000) = false by simp; omega]
    go_enter Tryz.func16, Tryz.ntmps16
    go_wp2
    go_ret
    exact ⟨ret_bool (by simp), (Below.refl _ _).alloc (Nat.le_refl _) _⟩
  · rw [show decide (r.size ≤ 4000) = true by simp; omega]
    obtain ⟨z, hz⟩ : ∃ z, Lib.index r.data.toList [10] = z := ⟨_, rfl⟩
    rw [hz] at i2
    unfold Lib.contains
    rw [hz]
    clear hz
    by_cases hz0 : 0 ≤ z
    · rw [decide_eq_true hz0]
      go_enter Tryz.func16, Tryz.ntmps16
      go_wp2_with (go_at_call 43; go_fit (i2 _); rintro e w' ⟨rfl, rfl⟩)
      go_ret
      exact ⟨ret_bool (by simp), (Below.refl _ _).alloc (Nat.le_refl _) _⟩
    · rw [decide_eq_false hz0]
      cases op
      case true =>
        obtain ⟨hb, hhb⟩ : ∃ b, hdB f o n = b := ⟨_, rfl⟩
        rw [hhb] at i1
        rw [Bool.cond_true, hhb]
        clear hhb
        have HK := Lib.hid (fun W (h : Below (w.alloc (.cells #[.string f, .string o, .int .i64 n, .string r, .bool true, .bool cl, .bool de] 29)).heap.size (w.alloc (.cells #[.string f, .string o, .int .i64 n, .string r, .bool true, .bool cl, .bool de] 29)) W) => box_seven h)
        cases hb <;>
          (go_enter Tryz.func16, Tryz.ntmps16
           go_wp2_with (first
             | (go_at_call 43; go_fit (i2 _); rintro e w' ⟨rfl, rfl⟩)
             | (go_at_call 44; go_fit (i1 _); rintro e w' ⟨rfl, hb⟩))
           all_goals
             go_ret
             first
               | exact ⟨ret_bool (by first | (simp [*]; done) | (rename_i hh; have hh2 : r.toList.isEmpty = false := (by rcases hh with (h | h) | h; { omega }; { omega }; { simpa using h }); simp [*])), below_one hb⟩
               | exact ⟨ret_bool (by first | (simp [*]; done) | (rename_i hh; have hh2 : r.toList.isEmpty = false := (by rcases hh with (h | h) | h; { omega }; { omega }; { simpa using h }); simp [*])), (Below.refl _ _).alloc (Nat.le_refl _) _⟩)
      case false =>
        rw [Bool.cond_false]
        unfold zeroH
        go_enter Tryz.func16, Tryz.ntmps16
        go_wp2_with (first
               | (go_at_call 43; go_fit (i2 _); rintro e w' ⟨rfl, rfl⟩))
        all_goals
          go_ret
          exact ⟨ret_bool (by first | (simp [*]; done) | (rename_i hh; have hh2 : r.toList.isEmpty = false := (by rcases hh with (h | h) | h; { omega }; { omega }; { simpa using h }); simp [*])), (Below.refl _ _).alloc (Nat.le_refl _) _⟩
end Go.Proofs.YtgcfognljkebjaaGreatDoor

namespace Go.Proofs.YtgcfognljkebjaaGreatDoor
set_option linter.unusedSimpArgs false
set_option linter.unusedVariables false
open Go.Joins

theorem jid_len {l d r : ByteArray} (h : jidB l d r = true) : (jidT l d r).data.toList.length ≤ 92 := by
  unfold jidB jidB' at h
  rw [Bool.and_eq_true, Bool.and_eq_true] at h
  obtain ⟨⟨h1, h2⟩, h3⟩ := h
  have h2 := (domB_iff.1 h2).2.1
  unfold partB at h1 h2 h3
  rw [Bool.and_eq_true, decide_eq_true_eq] at h1 h2 h3
  have a1 := mark_le atS l (by decide)
  have a2 := mark_le slS r (by decide)
  unfold jidT
  rw [strOf_data, flat_five]
  simp only [List.length_append, size_data]
  omega
theorem addr_len {s : ByteArray} (h : addrE s = true) : s.size ≤ 92 := by
  unfold addrE at h
  rw [Bool.or_eq_true] at h
  rcases h with h | h
  · have := of_decide_eq_true h
    omega
  · unfold addrB goodR at h
    rw [Bool.and_eq_true, Bool.and_eq_true] at h
    have e := h.2
    rw [beq_iff_eq, ByteArray.toList_eq, ByteArray.toList_eq] at e
    have := jid_len h.1.2
    rw [e, size_data] at this
    exact this
theorem name_len {s : ByteArray} (h : (decide (s.size = 0) || nameB s) = true) : s.size ≤ 20 := by
  rw [Bool.or_eq_true] at h
  rcases h with h | h
  · have := of_decide_eq_true h
    omega
  · have hP : nameP s := by unfold nameB at h; simpa using h
    exact hP.2.1
theorem okX_le {x : StL} {T : List UInt8} (h : okX x T) : T.length ≤ 4000 := by
  obtain ⟨h1, h2⟩ := h
  obtain ⟨n0, n1, hb⟩ := stB_id h1
  unfold stB at h1
  simp only [Bool.and_eq_true] at h1
  obtain ⟨⟨⟨⟨⟨hk, ht⟩, hf⟩, ho⟩, _⟩, _⟩ := h1
  have lt := name_len ht
  have lf := addr_len hf
  have lo := addr_len ho
  rw [strOf_size] at lt lf lo hb
  have lk : x.k.length ≤ 20 := by
    have e : x.k = (strOf x.k).data.toList := (strOf_data _).symm
    rcases kind_cases hk with h | h | h | h <;> (rw [e, h]; decide)
  have li := id_len n0 n1
  have f1 := fld_len wType x.t
  have f2 := fld_len wFrom x.f
  have f3 := fld_len wTo x.o
  have f4 := fld_len wId (idL x.n)
  have le := escL_len x.b
  rw [show wType.length = 4 from rfl] at f1
  rw [show wFrom.length = 4 from rfl] at f2
  rw [show wTo.length = 2 from rfl] at f3
  rw [show wId.length = 2 from rfl] at f4
  rw [← h2]
  unfold markL headL endL
  split <;> simp <;> omega
theorem okH_le {f o : List UInt8} {n : Int} {T : List UInt8} (h : okH f o n T) : T.length ≤ 4000 := by
  obtain ⟨h1, h2⟩ := h
  obtain ⟨l1, l2, n0, n1⟩ := hdB_le h1
  rw [strOf_size] at l1 l2
  have li := id_len (show 0 ≤ n by omega) n1
  rw [← h2]
  unfold hdL
  simp
  omega
theorem lineK_long {T : List UInt8} (h : 4000 < T.length) : lineK T = .wrong := by
  unfold lineK
  rw [if_neg (by rintro rfl; simp at h), if_neg (by rintro rfl; simp [closeL] at h), if_neg (by rintro ⟨_, hx⟩; have := okX_le hx; omega), if_neg (fun hx => by have := okH_le hx; omega)]
theorem stepK_long {T : List UInt8} (s : SmS) (h : 4000 < T.length) : stepK s T = (⟨s.f, s.o, s.n, s.op, s.cl, true⟩, []) := by
  unfold stepK nextK
  rw [lineK_long h]
  rfl
/-! ### The answer of StreamFeed -/
structure SmO where
  s : SmS
  rest : List UInt8
  xs : List StL
def restK (r : SmS × List StL) (R : List UInt8) : SmO :=
  bif r.1.cl || r.1.de then ⟨r.1, [], r.2⟩ else if 4000 < R.length then ⟨⟨r.1.f, r.1.o, r.1.n, r.1.op, r.1.cl, true⟩, [], r.2⟩ else ⟨r.1, R, r.2⟩
/-- What a valid stream that is not dead makes of its rest and a text behind it. -/
noncomputable def feedO (s : SmS) (T : List UInt8) : SmO := restK (feedK s (iniL T)) (finL T)
/-- The answer of StreamFeed: a code; if it is 0: the stream, its rest, the stanzas. -/
noncomputable def smBL (s : SmS) (R : List UInt8) : Bool := smB (strOf s.f) (strOf s.o) s.n (strOf R) s.op s.cl s.de
noncomputable def feedA (s : SmS) (R T : List UInt8) : SmO × Int :=
  if 20000 < T.length then (⟨zeroS, [], []⟩, 2) else if smBL s R = false then (⟨zeroS, [], []⟩, 1) else if s.de = true then (⟨zeroS, [], []⟩, 11) else (feedO s (R ++ T), 0)
theorem contains_ten {R : List UInt8} : Lib.contains R [10] = false ↔ ∀ x ∈ R, x ≠ 10 := by
  unfold Lib.contains
  constructor
  · intro h x hx e
    subst e
    obtain ⟨A, B, rfl, hA⟩ := (part_ten R).resolve_left (fun h2 => h2 10 hx rfl)
    rw [index_app 10 B A hA] at h
    simp at h
  · intro h
    rw [index_not 10 R h]
    rfl
theorem smBL_iff {s : SmS} {R : List UInt8} : smBL s R = true ↔ okS s ∧ R.length ≤ 4000 ∧ (∀ x ∈ R, x ≠ 10) ∧ ((s.cl = true ∨ s.de = true) → R = []) := by
  unfold smBL smB okS zeroH
  have hz : ∀ l : List UInt8, (strOf l).toList = l := fun l => by rw [ByteArray.toList_eq, strOf_data]
  rw [strOf_size, strOf_data, hz, hz, hz, ← contains_ten]
  cases s.op <;> cases s.cl <;> cases s.de <;> simp <;> (try (cases R <;> simp)) <;> (try omega)
  all_goals (first | (constructor <;> (intro h; simp_all)) | skip)
theorem restK_xs (r : SmS × List StL) (R : List UInt8) : (restK r R).xs = r.2 := by
  unfold restK
  cases r.1.cl || r.1.de
  · dsimp only [cond]
    split <;> rfl
  · rfl
theorem restK_pre (r : SmS × List StL) (p : List StL) (R : List UInt8) : restK (r.1, p ++ r.2) R = ⟨(restK r R).s, (restK r R).rest, p ++ (restK r R).xs⟩ := by
  unfold restK
  dsimp only
  cases r.1.cl || r.1.de
  · dsimp only [cond]
    split <;> rfl
  · rfl
theorem restK_dead {r : SmS × List StL} (h : r.1.de = true) (R : List UInt8) : restK r R = ⟨r.1, [], r.2⟩ := by
  unfold restK
  rw [h, Bool.or_true]
  rfl
theorem restK_shut {r : SmS × List StL} (h : r.1.cl = true) (R : List UInt8) : restK r R = ⟨r.1, [], r.2⟩ := by
  unfold restK
  rw [h, Bool.true_or]
  rfl
theorem restK_long {r : SmS × List StL} (h1 : r.1.cl = false) (h2 : r.1.de = false) {R : List UInt8} (h : 4000 < R.length) : restK r R = ⟨⟨r.1.f, r.1.o, r.1.n, r.1.op, r.1.cl, true⟩, [], r.2⟩ := by
  unfold restK
  rw [h1, h2, Bool.or_false, cond_false, if_pos h]
theorem restK_on {r : SmS × List StL} (h1 : r.1.cl = false) (h2 : r.1.de = false) {R : List UInt8} (h : ¬ 4000 < R.length) : restK r R = ⟨r.1, R, r.2⟩ := by
  unfold restK
  rw [h1, h2, Bool.or_false, cond_false, if_neg h]
/-- What is fed is valid again. -/
theorem feedO_ok {s : SmS} (h : okS s) (T : List UInt8) : smBL (feedO s T).s (feedO s T).rest = true := by
  rw [smBL_iff]
  have h1 := feedK_ok (iniL T) s h
  unfold feedO
  generalize feedK s (iniL T) = r at h1 ⊢
  cases hd : r.1.de with
  | true =>
    rw [restK_dead hd]
    exact ⟨h1, Nat.zero_le _, (fun x hx => by cases hx), fun _ => rfl⟩
  | false =>
    cases hc : r.1.cl with
    | true =>
      rw [restK_shut hc]
      exact ⟨h1, Nat.zero_le _, (fun x hx => by cases hx), fun _ => rfl⟩
    | false =>
      by_cases hl : 4000 < (finL T).length
      · rw [restK_long hc hd hl]
        exact ⟨h1, Nat.zero_le _, (fun x hx => by cases hx), fun _ => rfl⟩
      · rw [restK_on hc hd hl]
        refine ⟨h1, Nat.not_lt.1 hl, finL_no T, fun h => ?_⟩
        dsimp only at h
        rw [hc, hd] at h
        rcases h with h | h <;> cases h
/-- What comes in two parts. -/
theorem feed_two {s : SmS} (hs : s.de = false) (ho : okS s) (A B : List UInt8) :
    ((feedO s A).s.de = true → (feedO s (A ++ B)).s.de = true ∧ (feedO s (A ++ B)).xs = (feedO s A).xs) ∧
    ((feedO s A).s.de = false → (feedO s A).s.cl = true → (feedO s (A ++ B)).xs = (feedO s A).xs ∧ (feedO (feedO s A).s ((feedO s A).rest ++ B)).xs = []) ∧
    ((feedO s A).s.de = false → (feedO s A).s.cl = false → (feedO s (A ++ B)) = ⟨(feedO (feedO s A).s ((feedO s A).rest ++ B)).s, (feedO (feedO s A).s ((feedO s A).rest ++ B)).rest, (feedO s A).xs ++ (feedO (feedO s A).s ((feedO s A).rest ++ B)).xs⟩) := by
  have h1 := feedK_ok (iniL A) s ho
  have hx : feedO s (A ++ B) = restK (feedK s (iniL A ++ iniL (finL A ++ B))) (finL (finL A ++ B)) := by unfold feedO; rw [iniL_app, ← finL_app]
  rw [hx, feedK_app _ _ _ hs]
  clear hx
  have ha : feedO s A = restK (feedK s (iniL A)) (finL A) := rfl
  rw [ha]
  clear ha
  generalize feedK s (iniL A) = r at h1 ⊢
  have hF := finL_no A
  generalize finL A = F at hF ⊢
  cases hd : r.1.de with
  | true =>
    rw [if_pos rfl, restK_dead hd, restK_dead hd]
    dsimp only
    refine ⟨fun _ => ⟨hd, rfl⟩, fun h => ?_, fun h => ?_⟩
    · rw [hd] at h; cases h
    · rw [hd] at h; cases h
  | false =>
    rw [if_neg Bool.false_ne_true]
    cases hc : r.1.cl with
    | true =>
      have hop : r.1.op = true := by
        cases hop : r.1.op with
        | true => rfl
        | false => have := (h1.2 hop).2.2.2; rw [hc] at this; cases this
      rw [restK_shut hc F, restK_xs]
      dsimp only
      obtain ⟨c1, c2, c3⟩ := feedK_closed (iniL (F ++ B)) r.1 hc hop
      refine ⟨fun h => ?_, fun _ _ => ⟨by rw [c1, List.append_nil], ?_⟩, fun _ h => ?_⟩
      · rw [hd] at h; cases h
      · unfold feedO
        rw [restK_xs]
        exact (feedK_closed _ r.1 hc hop).1
      · rw [hc] at h; cases h
    | false =>
      by_cases hl : 4000 < F.length
      · rw [restK_long hc hd hl]
        refine ⟨fun _ => ?_, fun h => ?_, fun h => ?_⟩
        · rcases part_ten (F ++ B) with h2 | ⟨P, Q, h2, h3⟩
          · have e := lines_one _ h2
            have e1 : iniL (F ++ B) = [] := by unfold iniL; rw [e]; rfl
            have e2 : finL (F ++ B) = F ++ B := by unfold finL; rw [e]; rfl
            rw [e1, e2, feedK_nil, List.append_nil, restK_long (r := (r.1, r.2)) hc hd (by rw [List.length_append]; omega)]
            exact ⟨rfl, rfl⟩
          · have hFP : ∃ P2, P = F ++ P2 := by
              rcases List.append_eq_append_iff.1 h2 with ⟨a', e1, e2⟩ | ⟨c', e1, e2⟩
              · exact ⟨a', e1⟩
              · cases c' with
                | nil => exact ⟨[], by rw [e1]; simp⟩
                | cons y c' =>
                  rw [List.cons_append, List.cons.injEq] at e2
                  exact absurd e2.1.symm (hF y (by rw [e1]; simp))
            obtain ⟨P2, rfl⟩ := hFP
            have e : linesL (F ++ B) = (F ++ P2) :: linesL Q := by rw [h2, lines_more _ _ h3]
            have e1 : iniL (F ++ B) = (F ++ P2) :: iniL Q := by
              unfold iniL
              rw [e, List.dropLast_cons_of_ne_nil (linesL_ne Q)]
            have e3 := stepK_long r.1 (T := F ++ P2) (by rw [List.length_append]; omega)
            rw [e1, feedK_dead _ (by rw [e3]), e3, restK_dead (by rfl)]
            dsimp only
            rw [List.append_nil]
            exact ⟨rfl, rfl⟩
        · cases h
        · cases h
      · rw [restK_on hc hd hl, restK_pre]
        refine ⟨fun h => ?_, fun _ h => ?_, fun _ _ => rfl⟩
        · rw [hd] at h; cases h
        · rw [hc] at h; cases h
end Go.Proofs.YtgcfognljkebjaaGreatDoor

namespace Go.Proofs.YtgcfognljkebjaaGreatDoor
set_option linter.unusedSimpArgs false
set_option linter.unusedVariables false
open Go.RowKit Go.Joins

theorem info_st : (Tryz.prog.info? 70).map (fun i => (i.zero, i.size, i.bytes)) = some (some (.agg #[.string ⟨#[]⟩, .string ⟨#[]⟩, .string ⟨#[]⟩, .string ⟨#[]⟩, .int .i64 0, .string ⟨#[]⟩]), 6, 88) := by kernel_rfl
theorem stC_one (x : StL) : ∀ u ∈ stC x, u.oneCell' = true := by
  intro u hu
  simp [stC] at hu
  rcases hu with rfl | rfl | rfl | rfl | rfl | rfl <;> rfl
theorem stC_len (x : StL) : (stC x).length = 6 := rfl
abbrev OwnX (w : World) (B : Nat) (v : Value) (xs : List StL) : Prop := OwnC stC w B 70 6 v xs
/-- The stream's box, the answer's box, the stanzas so far. -/
def FRel (w wr : World) (s : SmS) (v : Value) (xs : List StL) : Prop := WBox w wr (smC s []) ∧ OwnX wr (w.heap.size + 2) v xs ∧ w.heap.size + 2 ≤ wr.heap.size
theorem FRel.on {w wr W : World} {s : SmS} {v : Value} {xs : List StL} (h : FRel w wr s v xs) (hb : Below wr.heap.size wr W) : FRel w W s v xs := ⟨h.1.on hb, h.2.1.on hb, Nat.le_trans h.2.2 hb.size⟩
theorem FRel.put {w wr : World} {s t : SmS} {v : Value} {xs : List StL} (h : FRel w wr s v xs) (i : Nat) (u : Value) (e : (smC s []).set i u = smC t []) : FRel w (wr.setCell ⟨w.heap.size, i, none⟩ u) t v xs :=
  ⟨e ▸ h.1.put i u, h.2.1.low (a := ⟨w.heap.size, i, none⟩) (by show w.heap.size < w.heap.size + 2; omega) u, by simpa [World.setCell] using h.2.2⟩
theorem FRel.app {w wr W : World} {s : SmS} {v v' : Value} {xs : List StL} {x : StL} (h : FRel w wr s v xs) (hg : wr.grownBy W v.ownBlock) (h1 : OwnX W (w.heap.size + 2) v' (xs ++ [x])) : FRel w W s v' (xs ++ [x]) := by
  have hb : Below (w.heap.size + 2) wr W := (Below.refl _ _).grown hg h.2.2 h.2.1.base
  have hb2 : Below w.heap.size w W := h.1.2.2.trans (hb.mono (by omega))
  exact ⟨⟨arr_keep h.1.1 hb (by omega), arr_keep h.1.2.1 hb (by omega), hb2⟩, h1, Nat.le_trans h.2.2 hb.size⟩
theorem fresh2 (w : World) (A : Obj) (t : Nat) (cs : List Value) : Arr ((w.alloc A).alloc (.cells cs.toArray t)) (w.heap.size + 1) t cs := by
  have := Arr.fresh (w.alloc A) t cs
  rw [World.size_alloc] at this
  exact this
theorem FRel.head {w wr : World} {s : SmS} {v : Value} {xs : List StL} (h : FRel w wr s v xs) (A : Obj) (f o : List UInt8) (m : Int) :
    FRel w (((((wr.setCell ⟨w.heap.size, 0, none⟩ (.string (strOf f))).setCell ⟨w.heap.size, 1, none⟩ (.string (strOf o))).setCell ⟨w.heap.size, 2, none⟩ (.int .i64 m)).setCell ⟨w.heap.size, 4, none⟩ (.bool true)).alloc A) ⟨f, o, m, true, s.cl, s.de⟩ v xs :=
  ((((h.put (t := ⟨f, s.o, s.n, s.op, s.cl, s.de⟩) 0 _ rfl).put (t := ⟨f, o, s.n, s.op, s.cl, s.de⟩) 1 _ rfl).put (t := ⟨f, o, m, s.op, s.cl, s.de⟩) 2 _ rfl).put (t := ⟨f, o, m, true, s.cl, s.de⟩) 4 _ rfl).on ((Below.refl _ _).alloc (Nat.le_refl _) A)
theorem FRel.shut {w wr : World} {s : SmS} {v : Value} {xs : List StL} (h : FRel w wr s v xs) (A : Obj) : FRel w ((wr.setCell ⟨w.heap.size, 5, none⟩ (.bool true)).alloc A) ⟨s.f, s.o, s.n, s.op, true, s.de⟩ v xs :=
  (h.put (t := ⟨s.f, s.o, s.n, s.op, true, s.de⟩) 5 _ rfl).on ((Below.refl _ _).alloc (Nat.le_refl _) A)
theorem FRel.dead {w wr : World} {s : SmS} {v : Value} {xs : List StL} (h : FRel w wr s v xs) : FRel w (wr.setCell ⟨w.heap.size, 6, none⟩ (.bool true)) ⟨s.f, s.o, s.n, s.op, s.cl, true⟩ v xs :=
  h.put (t := ⟨s.f, s.o, s.n, s.op, s.cl, true⟩) 6 _ rfl
theorem results_pair {fn : Func} {p q : Tmp} {ty : TypeId} (h : fn.results = #[.cell p ty, .tmp q]) (tmps : Array Value) (w : World) (g : Nat) (t : TypeId) (cs : Array Value) (d : TypeDesc) (v : Value)
    (hp : tmps.getD p undef = .pointer (some ⟨g, 0, none⟩)) (hq : tmps.getD q undef = v) (hg : w.heap[g]? = some (.cells cs t (0, 0)))
    (hu : Tryz.prog.underlying ty = some d) (hd : (match d with | .struct _ | .array _ _ => true | _ => false) = true) (hi : (Tryz.prog.info? ty).map (·.size) = some cs.size) :
    (results fn tmps).run Tryz.prog w = .ok (.tuple #[.agg cs, v]) w := by
  have hp' : tmps[p]?.getD undef = .pointer (some ⟨g, 0, none⟩) := by simpa using hp
  have hq' : tmps[q]?.getD undef = v := by simpa using hq
  have hrun := run_loadVar_row (P := Tryz.prog) w g t ty cs (0, 0) d hg hu (by revert hd; cases d <;> simp) hi
  simp [results, h, hp', hq', asAddr, hrun]
/-- The end: the stream is stored into the answer's box. -/
theorem FRel.last {w wr : World} {s : SmS} {v : Value} {xs : List StL} (h : FRel w wr s v xs) (a b c d e f g : Value) :
    Arr (((((((wr.setCell ⟨w.heap.size + 1, 0, none⟩ a).setCell ⟨w.heap.size + 1, 1, none⟩ b).setCell ⟨w.heap.size + 1, 2, none⟩ c).setCell ⟨w.heap.size + 1, 3, none⟩ d).setCell ⟨w.heap.size + 1, 4, none⟩ e).setCell ⟨w.heap.size + 1, 5, none⟩ f).setCell ⟨w.heap.size + 1, 6, none⟩ g) (w.heap.size + 1) 29 [a, b, c, d, e, f, g] ∧
    OwnX (((((((wr.setCell ⟨w.heap.size + 1, 0, none⟩ a).setCell ⟨w.heap.size + 1, 1, none⟩ b).setCell ⟨w.heap.size + 1, 2, none⟩ c).setCell ⟨w.heap.size + 1, 3, none⟩ d).setCell ⟨w.heap.size + 1, 4, none⟩ e).setCell ⟨w.heap.size + 1, 5, none⟩ f).setCell ⟨w.heap.size + 1, 6, none⟩ g) w.heap.size v xs ∧
    Below w.heap.size w (((((((wr.setCell ⟨w.heap.size + 1, 0, none⟩ a).setCell ⟨w.heap.size + 1, 1, none⟩ b).setCell ⟨w.heap.size + 1, 2, none⟩ c).setCell ⟨w.heap.size + 1, 3, none⟩ d).setCell ⟨w.heap.size + 1, 4, none⟩ e).setCell ⟨w.heap.size + 1, 5, none⟩ f).setCell ⟨w.heap.size + 1, 6, none⟩ g) := by
  refine ⟨arr_put7 h.1.2.1 _ _ _ _ _ _ _, ?_, below_set7s h.1.2.2 (Nat.le_succ _) _ _ _ _ _ _ _⟩
  have hl : ∀ {W : World} (i : Nat) (u : Value), OwnX W (w.heap.size + 2) v xs → OwnX (W.setCell ⟨w.heap.size + 1, i, none⟩ u) (w.heap.size + 2) v xs := fun i u h => h.low (a := ⟨w.heap.size + 1, i, none⟩) (by show w.heap.size + 1 < w.heap.size + 2; omega) u
  exact (hl _ _ (hl _ _ (hl _ _ (hl _ _ (hl _ _ (hl _ _ (hl _ _ h.2.1))))))).mono (by omega)
/-- What is left to do. -/
def Left (s0 : SmS) (ls : List (List UInt8)) (k : Nat) (s : SmS) (xs : List StL) : Prop := s.de = false ∧ feedK s0 ls = ((feedK s (ls.drop k)).1, xs ++ (feedK s (ls.drop k)).2)
theorem left_start {s : SmS} (h : s.de = false) (ls : List (List UInt8)) : Left s ls 0 s [] := ⟨h, rfl⟩
theorem left_on {s0 s t : SmS} {ls : List (List UInt8)} {k : Nat} {xs ys : List StL} (h : Left s0 ls k s xs) (hk : k < ls.length) (hs : stepK s ls[k] = (t, ys)) (hd : t.de = false) : Left s0 ls (k + 1) t (xs ++ ys) := by
  refine ⟨hd, ?_⟩
  rw [h.2, List.drop_eq_getElem_cons hk, feedK_on _ (by rw [hs]; exact hd), hs, List.append_assoc]
theorem left_on0 {s0 s t : SmS} {ls : List (List UInt8)} {k : Nat} {xs : List StL} (h : Left s0 ls k s xs) (hk : k < ls.length) (hs : stepK s ls[k] = (t, [])) (hd : t.de = false) : Left s0 ls (k + 1) t xs := by
  have := left_on h hk hs hd
  rwa [List.append_nil] at this
theorem left_dead {s0 s t : SmS} {ls : List (List UInt8)} {k : Nat} {xs : List StL} (h : Left s0 ls k s xs) (hk : k < ls.length) (hs : stepK s ls[k] = (t, [])) (hd : t.de = true) : feedK s0 ls = (t, xs) := by
  rw [h.2, List.drop_eq_getElem_cons hk, feedK_dead _ (by rw [hs]; exact hd), hs, List.append_nil]
theorem left_end {s0 s : SmS} {ls : List (List UInt8)} {k : Nat} {xs : List StL} (h : Left s0 ls k s xs) (hk : ls.length ≤ k) : feedK s0 ls = (s, xs) := by
  rw [h.2, List.drop_eq_nil_of_le hk, feedK_nil, List.append_nil]
set_option maxRecDepth 100000 in
set_option maxHeartbeats 1000000 in
theorem impl_feed (s0 : SmS) (ps : List ByteArray) (g cap : Nat) (w : World) (hd : s0.de = false) (hg : g < w.heap.size) (hn : ps.length ≤ 1000000) (hsz : ∀ p ∈ ps, p.size ≤ 100000)
    (hrow : ∀ j (h : j < ps.length), w.cell? ⟨g, j, none⟩ = some (.string ps[j])) (hm : MaxL w) (hp : TabP w) (hE : ErrV w) :
    Calls Tryz.prog 27 #[smLV s0 [], .slice (some ⟨g, 0, none⟩) ps.length cap] w fun e w' => (∃ v, e = .returned (.tuple #[smLV (feedK s0 (ps.map (·.data.toList))).1 [], v]) ∧ OwnX w' w.heap.size v (feedK s0 (ps.map (·.data.toList))).2) ∧ Below w.heap.size w w' := by
  obtain ⟨n, hxn⟩ : ∃ n, ps.length = n := ⟨_, rfl⟩
  have HN := Lib.hid hxn
  have HR := Lib.hid hrow
  have HZ := Lib.hid hsz
  have HW := Lib.hid (WBox.start w s0 [])
  have HM := Lib.hid (fun W (h : Below w.heap.size w W) => And.intro (hm.below h hm.pos) (And.intro (hp.below h) (hE.below h)))
  have HL := Lib.hid (left_start hd (ps.map (·.data.toList)))
  rw [hxn] at hn ⊢
  clear hxn hrow hsz hm hp hE hd
  unfold smLV
  go_enter Tryz.func27, Tryz.ntmps27
  go_wp2
  go_step3
  go_wp2
  go_step3
  go_wp2
  go_loopw [6, 15] (fun v iq wr => ∃ (k : Nat) (s : SmS) (xs : List StL), k ≤ n ∧ iq = .int .i64 k ∧ FRel w wr s v xs ∧ Left s0 (ps.map (·.data.toList)) k s xs ∧ xs.length ≤ k) (fun _ i _ => n - (intOf i).toNat)
  case atStart => exact ⟨0, s0, [], Nat.zero_le _, rfl, ⟨HW.out, ownC_nil _ _ _ _ _, by simp⟩, HL.out, Nat.le_refl _⟩
  case round =>
    obtain ⟨k, s, xs, hk, rfl, hF, hl, hxs⟩ := hrel
    by_cases hlt : k < n
    · have hlt' : k < ps.length := by rw [HN.out]; exact hlt
      obtain ⟨T, hT⟩ : ∃ T, ps[k] = T := ⟨_, rfl⟩
      have hT0 := (hF.1.2.2.cell (p := ⟨g, k, none⟩) hg).trans (HR.out k hlt')
      have hT1 := HZ.out _ (List.getElem_mem hlt')
      rw [hT] at hT0 hT1
      have HT : Hid ((ps.map (·.data.toList))[k]'(by rw [List.length_map]; exact hlt') = T.data.toList) := Lib.hid (by rw [List.getElem_map, hT])
      obtain ⟨⟨c0, c1, c2, c3, c4, c5, c6⟩, f0, f1, f2, f3, f4, f5, f6⟩ := arr_sev hF.1.1
      have HF := Lib.hid hF
      have HK := Lib.hid hl
      have i1 := impl_next (strOf s.f) (strOf s.o) s.n (strOf []) s.op s.cl s.de T wr hT1 (HM.out _ hF.1.2.2).1 (HM.out _ hF.1.2.2).2.1 (HM.out _ hF.1.2.2).2.2
      clear hT hF hl
      obtain ⟨q, hq⟩ : ∃ q, nextK s.op s.cl (lineK T.data.toList) = q := ⟨_, rfl⟩
      have HQ : Hid (stepK s T.data.toList = actK s q) := Lib.hid (by unfold stepK; rw [hq])
      rw [hq] at i1
      clear hq
      cases q with
      | empty =>
        unfold lineV at i1
        dsimp only at i1
        have ta0 : ∀ W, (Instr.typeAssert (.iface 129 (.agg #[])) 85 88 true).run Tryz.prog W = .ok (.tuple #[.agg #[.string ⟨#[]⟩, .string ⟨#[]⟩, .int .i64 0], .bool false]) W := fun _ => by kernel_rfl
        have ta1 : ∀ W, (Instr.typeAssert (.iface 129 (.agg #[])) 85 90 true).run Tryz.prog W = .ok (.tuple #[.agg #[.string ⟨#[]⟩, .string ⟨#[]⟩, .string ⟨#[]⟩, .string ⟨#[]⟩, .int .i64 0, .string ⟨#[]⟩], .bool false]) W := fun _ => by kernel_rfl
        have ta2 : ∀ W, (Instr.typeAssert (.iface 129 (.agg #[])) 85 92 true).run Tryz.prog W = .ok (.tuple #[.agg #[], .bool false]) W := fun _ => by kernel_rfl
        have ta3 : ∀ W, (Instr.typeAssert (.iface 129 (.agg #[])) 85 93 true).run Tryz.prog W = .ok (.tuple #[.agg #[], .bool false]) W := fun _ => by kernel_rfl
        go_wp2_with (go_at_call 50; go_fit i1; rintro e w1 ⟨rfl, hb1⟩; have HF1 := Lib.hid (HF.out.on hb1); clear hb1; obtain ⟨⟨d0, d1, d2, d3, d4, d5, d6⟩, e0, e1, e2, e3, e4, e5, e6⟩ := arr_sev HF1.out.1.1; obtain ⟨⟨p0, p1, p2, p3, p4, p5, p6⟩, r0, r1, r2, r3, r4, r5, r6⟩ := arr_sev HF1.out.1.2.1; have hz1 := arr_lt HF1.out.1.1; have hz2 := arr_lt HF1.out.1.2.1)
        go_roundw
        case rel =>
          refine ⟨k + 1, s, xs, by omega, by go_num, HF1.out, ?_, by omega⟩
          exact left_on0 HK.out (by rw [List.length_map]; exact hlt') (by rw [HT.out]; exact HQ.out) HK.out.1
        case measure => simp [intOf]; omega
      | head f o m =>
        unfold lineV hdLV at i1
        dsimp only at i1
        have ta0 : ∀ W, (Instr.typeAssert (.iface 88 (.agg #[.string (strOf f), .string (strOf o), .int .i64 m])) 85 88 true).run Tryz.prog W = .ok (.tuple #[.agg #[.string (strOf f), .string (strOf o), .int .i64 m], .bool true]) W := fun _ => by kernel_rfl
        go_wp2_with (go_at_call 50; go_fit i1; rintro e w1 ⟨rfl, hb1⟩; have HF1 := Lib.hid (HF.out.on hb1); clear hb1; obtain ⟨⟨d0, d1, d2, d3, d4, d5, d6⟩, e0, e1, e2, e3, e4, e5, e6⟩ := arr_sev HF1.out.1.1; obtain ⟨⟨p0, p1, p2, p3, p4, p5, p6⟩, r0, r1, r2, r3, r4, r5, r6⟩ := arr_sev HF1.out.1.2.1; have hz1 := arr_lt HF1.out.1.1; have hz2 := arr_lt HF1.out.1.2.1)
        go_roundw
        case rel =>
          refine ⟨k + 1, ⟨f, o, m, true, s.cl, s.de⟩, xs, by omega, by go_num, ?_, ?_, by omega⟩
          · exact HF1.out.head _ f o m
          · exact left_on0 HK.out (by rw [List.length_map]; exact hlt') (by rw [HT.out]; exact HQ.out) HK.out.1
        case measure => simp [intOf]; omega
      | stanza x =>
        unfold lineV stLV at i1
        dsimp only at i1
        have ta0 : ∀ W, (Instr.typeAssert (.iface 90 (.agg #[.string (strOf x.k), .string (strOf x.t), .string (strOf x.f), .string (strOf x.o), .int .i64 x.n, .string (strOf x.b)])) 85 88 true).run Tryz.prog W = .ok (.tuple #[.agg #[.string ⟨#[]⟩, .string ⟨#[]⟩, .int .i64 0], .bool false]) W := fun _ => by kernel_rfl
        have ta1 : ∀ W, (Instr.typeAssert (.iface 90 (.agg #[.string (strOf x.k), .string (strOf x.t), .string (strOf x.f), .string (strOf x.o), .int .i64 x.n, .string (strOf x.b)])) 85 90 true).run Tryz.prog W = .ok (.tuple #[.agg #[.string (strOf x.k), .string (strOf x.t), .string (strOf x.f), .string (strOf x.o), .int .i64 x.n, .string (strOf x.b)], .bool true]) W := fun _ => by kernel_rfl
        go_wp2_with (first
          | (go_at_call 50; go_fit i1; rintro e w1 ⟨rfl, hb1⟩; have HF1 := Lib.hid (HF.out.on hb1); clear hb1; obtain ⟨⟨d0, d1, d2, d3, d4, d5, d6⟩, e0, e1, e2, e3, e4, e5, e6⟩ := arr_sev HF1.out.1.1; obtain ⟨⟨p0, p1, p2, p3, p4, p5, p6⟩, r0, r1, r2, r3, r4, r5, r6⟩ := arr_sev HF1.out.1.2.1; have hz1 := arr_lt HF1.out.1.1; have hz2 := arr_lt HF1.out.1.2.1)
          | (at_builtin; refine app_C stC_one stC_len Tryz.underlying30 info_st rfl (by decide) (by decide) _ rfl (.tmp 32) (.tmp 35) rfl (w.heap.size + 2) _ xs rfl ((HF1.out.2.1.alloc _).alloc _) (w1.heap.size + 1) x rfl (fresh2 _ _ _ _) (by omega) (by have := HF1.out.2.2; simp; omega) ?_; intro v2 w2 ho2 hg2; have HF2 := Lib.hid (((HF1.out.on ((Below.refl _ _).alloc (Nat.le_refl _) _)).on ((Below.refl _ _).alloc (Nat.le_refl _) _)).app hg2 ho2); clear ho2 hg2))
        go_roundw
        case rel =>
          refine ⟨k + 1, s, xs ++ [x], by omega, by go_num, HF2.out, ?_, by simp; omega⟩
          exact left_on HK.out (by rw [List.length_map]; exact hlt') (by rw [HT.out]; exact HQ.out) HK.out.1
        case measure => simp [intOf]; omega
      | close =>
        unfold lineV at i1
        dsimp only at i1
        have ta0 : ∀ W, (Instr.typeAssert (.iface 92 (.agg #[])) 85 88 true).run Tryz.prog W = .ok (.tuple #[.agg #[.string ⟨#[]⟩, .string ⟨#[]⟩, .int .i64 0], .bool false]) W := fun _ => by kernel_rfl
        have ta1 : ∀ W, (Instr.typeAssert (.iface 92 (.agg #[])) 85 90 true).run Tryz.prog W = .ok (.tuple #[.agg #[.string ⟨#[]⟩, .string ⟨#[]⟩, .string ⟨#[]⟩, .string ⟨#[]⟩, .int .i64 0, .string ⟨#[]⟩], .bool false]) W := fun _ => by kernel_rfl
        have ta2 : ∀ W, (Instr.typeAssert (.iface 92 (.agg #[])) 85 92 true).run Tryz.prog W = .ok (.tuple #[.agg #[], .bool true]) W := fun _ => by kernel_rfl
        go_wp2_with (go_at_call 50; go_fit i1; rintro e w1 ⟨rfl, hb1⟩; have HF1 := Lib.hid (HF.out.on hb1); clear hb1; obtain ⟨⟨d0, d1, d2, d3, d4, d5, d6⟩, e0, e1, e2, e3, e4, e5, e6⟩ := arr_sev HF1.out.1.1; obtain ⟨⟨p0, p1, p2, p3, p4, p5, p6⟩, r0, r1, r2, r3, r4, r5, r6⟩ := arr_sev HF1.out.1.2.1; have hz1 := arr_lt HF1.out.1.1; have hz2 := arr_lt HF1.out.1.2.1)
        go_roundw
        case rel =>
          refine ⟨k + 1, ⟨s.f, s.o, s.n, s.op, true, s.de⟩, xs, by omega, by go_num, ?_, ?_, by omega⟩
          · exact HF1.out.shut _
          · exact left_on0 HK.out (by rw [List.length_map]; exact hlt') (by rw [HT.out]; exact HQ.out) HK.out.1
        case measure => simp [intOf]; omega
      | wrong =>
        unfold lineV at i1
        dsimp only at i1
        have ta0 : ∀ W, (Instr.typeAssert (.iface 93 (.agg #[])) 85 88 true).run Tryz.prog W = .ok (.tuple #[.agg #[.string ⟨#[]⟩, .string ⟨#[]⟩, .int .i64 0], .bool false]) W := fun _ => by kernel_rfl
        have ta1 : ∀ W, (Instr.typeAssert (.iface 93 (.agg #[])) 85 90 true).run Tryz.prog W = .ok (.tuple #[.agg #[.string ⟨#[]⟩, .string ⟨#[]⟩, .string ⟨#[]⟩, .string ⟨#[]⟩, .int .i64 0, .string ⟨#[]⟩], .bool false]) W := fun _ => by kernel_rfl
        have ta2 : ∀ W, (Instr.typeAssert (.iface 93 (.agg #[])) 85 92 true).run Tryz.prog W = .ok (.tuple #[.agg #[], .bool false]) W := fun _ => by kernel_rfl
        have ta3 : ∀ W, (Instr.typeAssert (.iface 93 (.agg #[])) 85 93 true).run Tryz.prog W = .ok (.tuple #[.agg #[], .bool true]) W := fun _ => by kernel_rfl
        have HD := Lib.hid (left_dead HK.out (by rw [List.length_map]; exact hlt') (by rw [HT.out]; exact HQ.out) rfl)
        go_wp2_with (go_at_call 50; go_fit i1; rintro e w1 ⟨rfl, hb1⟩; have HF1 := Lib.hid (HF.out.on hb1); clear hb1; obtain ⟨⟨d0, d1, d2, d3, d4, d5, d6⟩, e0, e1, e2, e3, e4, e5, e6⟩ := arr_sev HF1.out.1.1; obtain ⟨⟨p0, p1, p2, p3, p4, p5, p6⟩, r0, r1, r2, r3, r4, r5, r6⟩ := arr_sev HF1.out.1.2.1; have hz1 := arr_lt HF1.out.1.1; have hz2 := arr_lt HF1.out.1.2.1)
        rw [Exit.noGoto_ret]
        obtain ⟨z1, z2, z3⟩ := HF1.out.dead.last (.string (strOf s.f)) (.string (strOf s.o)) (.int .i64 s.n) (.string (strOf [])) (.bool s.op) (.bool s.cl) (.bool true)
        exact bodyPost_ret (results_pair Tryz.results27 _ _ (w.heap.size + 1) 29 _ _ _ rfl rfl (arr_alloc z1 _) Tryz.underlying29 rfl (by kernel_rfl)) rfl ⟨⟨_, by rw [HD.out], by rw [HD.out]; exact z2.alloc _⟩, z3.alloc z3.size _⟩
    · have HE := Lib.hid (left_end hl (by rw [List.length_map, HN.out]; omega))
      have HF := Lib.hid hF
      obtain ⟨⟨d0, d1, d2, d3, d4, d5, d6⟩, e0, e1, e2, e3, e4, e5, e6⟩ := arr_sev hF.1.1
      obtain ⟨⟨p0, p1, p2, p3, p4, p5, p6⟩, r0, r1, r2, r3, r4, r5, r6⟩ := arr_sev hF.1.2.1
      have hz1 := arr_lt hF.1.1
      have hz2 := arr_lt hF.1.2.1
      clear hF hl
      go_wp2
      rw [Exit.noGoto_ret]
      obtain ⟨z1, z2, z3⟩ := HF.out.last (.string (strOf s.f)) (.string (strOf s.o)) (.int .i64 s.n) (.string (strOf [])) (.bool s.op) (.bool s.cl) (.bool s.de)
      exact bodyPost_ret (results_pair Tryz.results27 _ _ (w.heap.size + 1) 29 _ _ _ rfl rfl z1 Tryz.underlying29 rfl (by kernel_rfl)) rfl ⟨⟨_, by rw [HE.out], by rw [HE.out]; exact z2⟩, z3⟩
end Go.Proofs.YtgcfognljkebjaaGreatDoor

namespace Go.Proofs.YtgcfognljkebjaaGreatDoor
set_option linter.unusedSimpArgs false
set_option linter.unusedVariables false
open Go.RowKit Go.Joins

/-- The answer of StreamFeed. -/
def soC (o : SmO) (v : Value) (c : Int) : List Value := [.string (strOf o.s.f), .string (strOf o.s.o), .int .i64 o.s.n, .string (strOf o.rest), .bool o.s.op, .bool o.s.cl, .bool o.s.de, v, .int .i64 c]
def soV (o : SmO) (v : Value) (c : Int) : Value := .agg #[.string (strOf o.s.f), .string (strOf o.s.o), .int .i64 o.s.n, .string (strOf o.rest), .bool o.s.op, .bool o.s.cl, .bool o.s.de, v, .int .i64 c]
def FedAns (s : SmS) (R T : List UInt8) (w : World) (e : Ending) (w' : World) : Prop := (∃ v, e = .returned (soV (feedA s R T).1 v (feedA s R T).2) ∧ OwnX w' w.heap.size v (feedA s R T).1.xs) ∧ Below w.heap.size w w'
theorem splitL_len (s : ByteArray) : (Lib.splitB ⟨#[10]⟩ 0 (Lib.countB s ⟨#[10]⟩) s).length = Lib.countB s ⟨#[10]⟩ + 1 := Lib.splitB_all ⟨#[10]⟩ (by decide) 0 _ s rfl
theorem splitL_data (s : ByteArray) : (Lib.splitB ⟨#[10]⟩ 0 (Lib.countB s ⟨#[10]⟩) s).map (·.data.toList) = linesL s.data.toList := by
  rw [Lib.splitB_data, ← splitL]
  rfl
def zero9 : List Value := [.string ⟨#[]⟩, .string ⟨#[]⟩, .int .i64 0, .string ⟨#[]⟩, .bool false, .bool false, .bool false, .slice none 0 0, .int .i64 0]
/-- The argument's box, the answer's box. -/
def JBox (w W : World) (s : SmS) (R : List UInt8) : Prop := Arr W w.heap.size 29 (smC s R) ∧ Arr W (w.heap.size + 1) 32 zero9 ∧ Below w.heap.size w W
theorem JBox.on {w W W2 : World} {s : SmS} {R : List UInt8} (h : JBox w W s R) (hb : Below W.heap.size W W2) : JBox w W2 s R := ⟨arr_below h.1 hb, arr_below h.2.1 hb, h.2.2.trans (hb.mono h.2.2.size)⟩
theorem JBox.start (w : World) (s : SmS) (R : List UInt8) : JBox w ((w.alloc (.cells #[.string (strOf s.f), .string (strOf s.o), .int .i64 s.n, .string (strOf R), .bool s.op, .bool s.cl, .bool s.de] 29)).alloc (.cells #[.string ⟨#[]⟩, .string ⟨#[]⟩, .int .i64 0, .string ⟨#[]⟩, .bool false, .bool false, .bool false, .slice none 0 0, .int .i64 0] 32)) s R := by
  have h1 : Arr (w.alloc (.cells (smC s R).toArray 29)) w.heap.size 29 (smC s R) := Arr.fresh w _ _
  have h2 := Arr.fresh (w.alloc (.cells (smC s R).toArray 29)) 32 zero9
  rw [World.size_alloc] at h2
  exact ⟨arr_alloc h1 _, h2, ((Below.refl _ _).alloc (Nat.le_refl _) _).alloc (by simp) _⟩
theorem two_cells (W : World) (a b : ByteArray) : ∀ j (h : j < [a, b].length), (W.alloc (.cells #[.string a, .string b] 9)).cell? ⟨W.heap.size, j, none⟩ = some (.string [a, b][j]) := fun j h => by
  match j, h with
  | 0, _ => exact (Arr.fresh W 9 [.string a, .string b]).cell 0
  | 1, _ => exact (Arr.fresh W 9 [.string a, .string b]).cell 1
theorem ini_take {ws : List ByteArray} {q : Nat} {T : List UInt8} (hl : ws.length = q + 1) (hd : ws.map (fun p : ByteArray => p.data.toList) = linesL T) : (ws.take q).map (fun p : ByteArray => p.data.toList) = iniL T := by
  unfold iniL
  rw [← hd, List.dropLast_eq_take, List.length_map, hl, List.map_take]
  rfl
theorem fin_at {ws : List ByteArray} {q : Nat} {T : List UInt8} (hl : ws.length = q + 1) (hd : ws.map (fun p : ByteArray => p.data.toList) = linesL T) : ∃ L, ws[q]? = some L ∧ L.data.toList = finL T := by
  have hq : q < ws.length := by omega
  refine ⟨ws[q], List.getElem?_eq_getElem hq, ?_⟩
  have h1 := congrArg (fun l => l[q]?) hd
  have h2 := ini_take hl hd
  have h3 : (iniL T).length = q := by rw [← h2, List.length_map, List.length_take]; omega
  simp only [List.getElem?_map, List.getElem?_eq_getElem hq, Option.map_some] at h1
  rw [lines_eq T, List.getElem?_append_right (by omega), h3, Nat.sub_self] at h1
  simpa using h1
/-- .. and the lines. -/
def JB (w w2 : World) (s : SmS) (R : List UInt8) (ws : List ByteArray) (W : World) : Prop := JBox w W s R ∧ Arr W w2.heap.size 9 (ws.map Value.string) ∧ w2.heap.size + 1 ≤ W.heap.size ∧ w.heap.size + 2 ≤ w2.heap.size
theorem JB.on {w w2 W W2 : World} {s : SmS} {R : List UInt8} {ws : List ByteArray} (h : JB w w2 s R ws W) (hb : Below W.heap.size W W2) : JB w w2 s R ws W2 := ⟨h.1.on hb, arr_below h.2.1 hb, Nat.le_trans h.2.2.1 hb.size, h.2.2.2⟩
theorem JB.start {w w2 : World} {s : SmS} {R : List UInt8} {ws : List ByteArray} (h : JBox w w2 s R) : JB w w2 s R ws (w2.alloc (.cells (ws.map Value.string).toArray 9)).drew := by
  have h1 : JB w w2 s R ws (w2.alloc (.cells (ws.map Value.string).toArray 9)) := ⟨h.on ((Below.refl _ _).alloc (Nat.le_refl _) _), Arr.fresh _ _ _, by simp, by have := arr_lt h.2.1; omega⟩
  exact h1.on (Below.refl _ _).drew
theorem arr_farRow {w : World} {b t z : Nat} {cs : List Value} (h : Arr w b t cs) (hne : b ≠ z) (ds : Array Value) : Arr (w.setRow z ds) b t cs := (setRow_other w z b ds hne).trans h
theorem JB.row {w w2 W : World} {s : SmS} {R : List UInt8} {ws : List ByteArray} (h : JB w w2 s R ws W) {z : Nat} (hz : w2.heap.size + 1 ≤ z) (ds : Array Value) : JB w w2 s R ws (W.setRow z ds) := by
  obtain ⟨⟨h1, h2, h3⟩, h4, h5, h6⟩ := h
  have hb := below_setRow (g := z) h3 (by omega) ds
  exact ⟨⟨arr_farRow h1 (by omega) ds, arr_farRow h2 (by omega) ds, hb⟩, arr_farRow h4 (by omega) ds, Nat.le_trans h5 (below_setRow (g := z) (Below.refl 0 W) (Nat.zero_le _) ds).size, h6⟩
theorem OwnC.setRow {α : Type} {enc : α → List Value} {w : World} {B e size : Nat} {v : Value} {xs : List α} (h : OwnC enc w B e size v xs) {z : Nat} (hne : ∀ g, v.ownBlock = some g → g ≠ z) (ds : Array Value) : OwnC enc (w.setRow z ds) B e size v xs := by
  refine ⟨h.1, ?_⟩
  rcases h.2 with h0 | ⟨g, cap, cur, h1, h2, h3, h4⟩
  · exact .inl h0
  · refine .inr ⟨g, cap, cur, h1, h2, (setRow_other w z g ds (hne g ?_)).trans h3, h4⟩
    rw [h1]
    rfl
/-- Behind the first region: the box of what was fed, the stanzas. -/
def RB (w w2 : World) (s : SmS) (R : List UInt8) (ws : List ByteArray) (r : SmS × List StL) (v : Value) (z : Nat) (W : World) : Prop := JB w w2 s R ws W ∧ Arr W z 29 (smC r.1 []) ∧ OwnX W (w.heap.size + 2) v r.2 ∧ w2.heap.size + 1 ≤ z
theorem RB.on {w w2 W W2 : World} {s : SmS} {R : List UInt8} {ws : List ByteArray} {r : SmS × List StL} {v : Value} {z : Nat} (h : RB w w2 s R ws r v z W) (hb : Below W.heap.size W W2) : RB w w2 s R ws r v z W2 := ⟨h.1.on hb, arr_below h.2.1 hb, h.2.2.1.on hb, h.2.2.2⟩
theorem RB.of {w w2 W : World} {s : SmS} {R : List UInt8} {ws : List ByteArray} {r : SmS × List StL} {v : Value} {z B : Nat} {cs : List Value} (h : JB w w2 s R ws W) (hz : w2.heap.size + 1 ≤ z) (hA : Arr W z 29 cs) (hv : OwnX W B v r.2) (hB : w2.heap.size + 1 ≤ B) (hne : ∀ g, v.ownBlock = some g → g ≠ z) : RB w w2 s R ws r v z (W.setRow z (smC r.1 []).toArray) :=
  ⟨h.row hz _, Arr.row hA _, (hv.setRow hne _).mono (by have := h.2.2.2; omega), hz⟩
/-- What the second region reads. -/
def RS (w2 : World) (q : Nat) (L : ByteArray) (r : SmS × List StL) (z : Nat) (W : World) : Prop := W.cell? ⟨w2.heap.size, q, none⟩ = some (.string L) ∧ Arr W z 29 (smC r.1 [])
theorem RS.of {w w2 W : World} {s : SmS} {R : List UInt8} {ws : List ByteArray} {r : SmS × List StL} {v : Value} {z q : Nat} {L : ByteArray} (h : RB w w2 s R ws r v z W) (hL : ws[q]? = some L) : RS w2 q L r z W := by
  refine ⟨?_, h.2.1⟩
  rw [h.1.2.1.cell q, List.getElem?_map, hL]
  rfl
theorem RS.row {w w2 W : World} {s : SmS} {R : List UInt8} {ws : List ByteArray} {r : SmS × List StL} {v : Value} {z q : Nat} {L : ByteArray} (h : RB w w2 s R ws r v z W) (hL : ws[q]? = some L) (ds : Array Value) : RS w2 q L r z (W.setRow (w.heap.size + 1) ds) := by
  have h1 := RS.of h hL
  have := h.1.2.2.2
  have := h.2.2.2
  exact ⟨(cell_setRow_other W (w.heap.size + 1) ds ⟨w2.heap.size, q, none⟩ (by show w2.heap.size ≠ w.heap.size + 1; omega)).trans h1.1, arr_farRow h1.2 (by omega) ds⟩
theorem own_lt {α : Type} {enc : α → List Value} {w : World} {B e size : Nat} {v : Value} {xs : List α} (h : OwnC enc w B e size v xs) : ∀ g, v.ownBlock = some g → B ≤ g ∧ g < w.heap.size := World.ownsRow.lt h
theorem with_ans (s : SmS) (xs : List StL) (R : List UInt8) : (if s.cl = true ∨ s.de = true then smLV s [] else if 4000 < R.length then smLV ⟨s.f, s.o, s.n, s.op, s.cl, true⟩ [] else smLV s R) = smLV (restK (s, xs) R).s (restK (s, xs) R).rest := by
  unfold restK
  dsimp only
  cases s.cl <;> cases s.de <;> simp <;> split <;> rfl
set_option maxRecDepth 100000 in
set_option maxHeartbeats 2000000 in
theorem impl_sfeed (s : SmS) (R T : List UInt8) (w : World) (hf : s.f.length ≤ 2000000) (ho : s.o.length ≤ 2000000) (hR : R.length ≤ 2000000) (hT : T.length ≤ 2000000) (hm : MaxL w) (hp : TabP w) (hE : ErrV w) :
    Calls Tryz.prog 9 #[smLV s R, .string (strOf T)] w (FedAns s R T w) := by
  have HJ := Lib.hid (JBox.start w s R)
  have HM := Lib.hid (fun W (h : Below w.heap.size w W) => And.intro (hm.below h hm.pos) (And.intro (hp.below h) (hE.below h)))
  have hT' : (strOf T).size = T.length := strOf_size T
  unfold FedAns feedA
  by_cases h1 : 20000 < T.length
  · rw [if_pos h1]
    have h1' : 20000 < (strOf T).size := by omega
    clear hT' h1 hT HM hm hp hE HJ
    unfold smLV
    go_enter Tryz.func9, Tryz.ntmps9
    go_wp2
    exact bodyPost_ret (v := soV ⟨zeroS, [], []⟩ (.slice none 0 0) 2) (by simp [results, Tryz.results9, go_sem, soV, zeroS, strOf]) rfl ⟨⟨_, rfl, ownC_nil _ _ _ _ _⟩, ((Below.refl _ _).alloc (Nat.le_refl _) _).alloc (by simp) _⟩
  · rw [if_neg h1]
    have h1' : ¬ 20000 < (strOf T).size := by omega
    have i1 := fun W hm => impl_smright (strOf s.f) (strOf s.o) s.n (strOf R) s.op s.cl s.de W (by rw [strOf_size]; unfold maxLen; omega) (by rw [strOf_size]; unfold maxLen; omega) (by rw [strOf_size]; unfold maxLen; omega) hm
    unfold smBL
    obtain ⟨b, hb⟩ : ∃ b, smB (strOf s.f) (strOf s.o) s.n (strOf R) s.op s.cl s.de = b := ⟨_, rfl⟩
    rw [hb] at i1 ⊢
    cases b
    · rw [if_pos rfl]
      clear hT' h1 hT hm hp hE hb
      unfold smLV
      go_enter Tryz.func9, Tryz.ntmps9
      go_wp2_with (first
        | (go_at_call 15; go_fit (i1 _ (HM.out _ HJ.out.2.2).1); rintro e w1 ⟨rfl, hb1⟩; have HJ1 := Lib.hid (HJ.out.on hb1); clear hb1)
        | (refine wpList_store_row rfl 32 _ _ rfl (w.heap.size + 1) _ rfl rfl 32 _ HJ1.out.2.1 (by kernel_rfl) (by rfl) (by kernel_rfl) ?_))
      exact bodyPost_ret (v := soV ⟨zeroS, [], []⟩ (.slice none 0 0) 1) (results_cell_row (P := Tryz.prog) Tryz.results9 _ _ (w.heap.size + 1) 32 _ (0, 0) _ rfl (setRow_heap _ _ _ _ _ _ HJ1.out.2.1) Tryz.underlying32 rfl (by kernel_rfl)) rfl ⟨⟨_, rfl, ownC_nil _ _ _ _ _⟩, below_setRow HJ1.out.2.2 (Nat.le_succ _) _⟩
    · rw [if_neg (by decide)]
      cases hde : s.de
      case true =>
        rw [if_pos rfl]
        rw [hde] at i1 HJ
        clear hT' h1 hT hm hp hE hb
        unfold smLV
        rw [hde]
        go_enter Tryz.func9, Tryz.ntmps9
        go_wp2_with (first
          | (go_at_call 15; go_fit (i1 _ (HM.out _ HJ.out.2.2).1); rintro e w1 ⟨rfl, hb1⟩; have HJ1 := Lib.hid (HJ.out.on hb1); clear hb1; obtain ⟨⟨c0, c1, c2, c3, c4, c5, c6⟩, g0, g1, g2, g3, g4, g5, g6⟩ := arr_sev HJ1.out.1; rw [hde] at c6)
          | (refine wpList_store_row rfl 32 _ _ rfl (w.heap.size + 1) _ rfl rfl 32 _ HJ1.out.2.1 (by kernel_rfl) (by rfl) (by kernel_rfl) ?_))
        exact bodyPost_ret (v := soV ⟨zeroS, [], []⟩ (.slice none 0 0) 11) (results_cell_row (P := Tryz.prog) Tryz.results9 _ _ (w.heap.size + 1) 32 _ (0, 0) _ rfl (setRow_heap _ _ _ _ _ _ HJ1.out.2.1) Tryz.underlying32 rfl (by kernel_rfl)) rfl ⟨⟨_, rfl, ownC_nil _ _ _ _ _⟩, below_setRow HJ1.out.2.2 (Nat.le_succ _) _⟩
      case false =>
        rw [if_neg Bool.false_ne_true]
        rw [hde] at i1 HJ
        obtain ⟨X, hX⟩ : ∃ X, X = strOf (R ++ T) := ⟨_, rfl⟩
        have hXl : X.size ≤ 100000 := by
          have h4 := (smBL_iff (s := s) (R := R)).1 hb
          rw [hX, strOf_size, List.length_append]
          omega
        have i2 : ∀ W : World, Calls Tryz.prog 26 #[.slice (some ⟨W.heap.size, 0, none⟩) 2 2] (W.alloc (.cells #[.string (strOf R), .string (strOf T)] 9)) fun e w' => e = .returned (.string X) ∧ Below W.heap.size W w' := fun W => by
          have := joined_new W [strOf R, strOf T] (by simp) (by simp [flat, strOf_data]; omega)
          have e : strOf (flat [strOf R, strOf T]) = X := by rw [hX]; simp [flat, strOf_data]
          rw [e] at this
          exact this
        have i3 := fun m W hm => Tryz.strings_Split X ⟨#[10]⟩ m W (by omega) hm (by decide)
        have hwl := splitL_len X
        have hwd := splitL_data X
        obtain ⟨ws, hws⟩ : ∃ ws, Lib.splitB ⟨#[10]⟩ 0 (Lib.countB X ⟨#[10]⟩) X = ws := ⟨_, rfl⟩
        obtain ⟨q, hq⟩ : ∃ q, Lib.countB X ⟨#[10]⟩ = q := ⟨_, rfl⟩
        rw [hws] at i3 hwd hwl
        rw [hq] at i3 hwl
        rw [hX, strOf_data] at hwd
        have hqs : q ≤ 100000 := by
          have := congrArg List.length hwd
          rw [List.length_map, hwl] at this
          have h2 := linesL_len (R ++ T)
          have h3 : (R ++ T).length = X.size := by rw [hX, strOf_size]
          omega
        have hww : ∀ p ∈ ws, p.size ≤ 100000 := fun p hp => by
          have h2 := linesL_le (R ++ T) p.data.toList (by rw [← hwd]; exact List.mem_map_of_mem hp)
          have h3 : (R ++ T).length = X.size := by rw [hX, strOf_size]
          rw [size_data] at h2
          omega
        have HWS := Lib.hid hww
        have HWL := Lib.hid hwl
        have HWD := Lib.hid hwd
        clear hT' h1 hT hm hp hE hb hws hq hwl hwd hX hww
        unfold smLV
        rw [hde]
        go_enter Tryz.func9, Tryz.ntmps9
        go_wp2_with (first
          | (go_at_call 15; go_fit (i1 _ (HM.out _ HJ.out.2.2).1); rintro e w1 ⟨rfl, hb1⟩; have HJ1 := Lib.hid (HJ.out.on hb1); clear hb1; obtain ⟨⟨c0, c1, c2, c3, c4, c5, c6⟩, g0, g1, g2, g3, g4, g5, g6⟩ := arr_sev HJ1.out.1; rw [hde] at c6)
          | (go_at_call 26; go_fit (i2 _); rintro e w2 ⟨rfl, hb2⟩; have HJ2 := Lib.hid (HJ1.out.on hb2); clear hb2; obtain ⟨mm, hmm⟩ := (HM.out _ HJ2.out.2.2).1)
          | (go_at_call 25; go_fit (i3 mm _ hmm); rintro e w3 ⟨rfl, rfl⟩))
        have hS0 : JB w w2 s R ws (w2.alloc (.cells (ws.map Value.string).toArray 9)).drew := JB.start HJ2.out
        refine wp_region_held_drew (S := JB w w2 s R ws) (by kernel_rfl) hS0 (fun hHeld => ?_)
        generalize (w2.alloc (.cells (ws.map Value.string).toArray 9)).drew = wm at hS0 hHeld ⊢
        obtain ⟨r, hr⟩ : ∃ r, feedK s (iniL (R ++ T)) = r := ⟨_, rfl⟩
        have i4 := fun W => impl_without s R W hf ho
        have i5 : ∀ W, Arr W w2.heap.size 9 (ws.map Value.string) → Below w.heap.size w W → Calls Tryz.prog 27 #[smLV s [], .slice (some ⟨w2.heap.size, 0, none⟩) q (q + 1)] W fun e w' => (∃ v, e = .returned (.tuple #[smLV r.1 [], v]) ∧ OwnX w' W.heap.size v r.2) ∧ Below W.heap.size W w' := fun W hA hB => by
          have h1 := impl_feed s (ws.take q) w2.heap.size (q + 1) W hde (arr_lt hA) (by rw [List.length_take, HWL.out]; omega) (fun p hp => HWS.out p (List.mem_of_mem_take hp)) (fun j hj => by
            rw [hA.cell j, List.getElem?_map, List.getElem_take]
            rw [List.getElem?_eq_getElem (by rw [List.length_take] at hj; omega)]
            rfl) (HM.out _ hB).1 (HM.out _ hB).2.1 (HM.out _ hB).2.2
          rw [show (ws.take q).length = q by rw [List.length_take, HWL.out]; omega] at h1
          rw [ini_take HWL.out HWD.out, hr] at h1
          exact h1
        unfold smLV at i4 i5
        rw [hde] at i4 i5
        obtain ⟨L, hL, hLd⟩ := fin_at HWL.out HWD.out
        have HL := Lib.hid hL
        obtain ⟨oo, hoo⟩ : ∃ oo, restK r (finL (R ++ T)) = oo := ⟨_, rfl⟩
        have i6 : ∀ W, Calls Tryz.prog 29 #[smLV r.1 [], .string L] W fun e w' => e = .returned (smLV oo.s oo.rest) ∧ Below W.heap.size W w' := fun W => by
          have h1 := impl_with r.1 (finL (R ++ T)) W (by rw [← hLd, size_data]; have := HWS.out L (List.mem_of_getElem? hL); omega)
          rw [with_ans r.1 r.2, hoo, ← hLd, strOf_toList] at h1
          exact h1
        have HO : Hid (feedO s (R ++ T) = oo) := Lib.hid (by unfold feedO; rw [hr, hoo])
        have HX : Hid (oo.xs = r.2) := Lib.hid (by rw [← hoo, restK_xs])
        have hLs := HWS.out L (List.mem_of_getElem? hL)
        clear hL hLd hoo hr
        unfold smLV at i6
        refine takeH (i := 0) (k := 30) (v := .agg #[.string (strOf s.f), .string (strOf s.o), .int .i64 s.n, .string (strOf R), .bool s.op, .bool s.cl, .bool false]) rfl (by rfl) (by kernel_rfl) (by kernel_rfl) (by kernel_rfl) (fun _ _ _ h => h) (by rfl) ?_ hHeld ?_
        · intro w1 hSw; obtain ⟨⟨c0, c1, c2, c3, c4, c5, c6⟩, _⟩ := arr_sev hSw.1.1; go_simp; (try (intro hx; omega))
        (try simp only [Act.put, List.setIfInBounds_toArray, List.set_cons_zero, List.set_cons_succ])
        refine takeH (i := 2) (k := 32) (v := .slice (some ⟨w2.heap.size, 0, none⟩) (q + 1) (q + 1)) rfl (by rfl) (by kernel_rfl) (by kernel_rfl) (by kernel_rfl) (fun _ _ _ h => h) (by rfl) ?_ hHeld ?_
        · intro w1 hSw; obtain ⟨⟨c0, c1, c2, c3, c4, c5, c6⟩, _⟩ := arr_sev hSw.1.1; go_simp; (try (intro hx; omega))
        (try simp only [Act.put, List.setIfInBounds_toArray, List.set_cons_zero, List.set_cons_succ])
        refine takeH (i := 3) (k := 33) (v := .int .i64 (q : Int)) rfl (by rfl) (by kernel_rfl) (by kernel_rfl) (by kernel_rfl) (fun _ _ _ h => h) (by rfl) ?_ hHeld ?_
        · intro w1 hSw; obtain ⟨⟨c0, c1, c2, c3, c4, c5, c6⟩, _⟩ := arr_sev hSw.1.1; go_simp; (try (intro hx; omega))
        (try simp only [Act.put, List.setIfInBounds_toArray, List.set_cons_zero, List.set_cons_succ])
        refine takeH (i := 4) (k := 34) (v := .slice (some ⟨w2.heap.size, 0, none⟩) q (q + 1)) rfl (by rfl) (by kernel_rfl) (by kernel_rfl) (by kernel_rfl) (fun _ _ _ h => h) (by rfl) ?_ hHeld ?_
        · intro w1 hSw; obtain ⟨⟨c0, c1, c2, c3, c4, c5, c6⟩, _⟩ := arr_sev hSw.1.1; go_simp; (try (intro hx; omega))
        (try simp only [Act.put, List.setIfInBounds_toArray, List.set_cons_zero, List.set_cons_succ])
        refine wpAnyH_ready (rs := [1, 9]) (by kernel_rfl) (by simp) ?_
        refine AllReadyH.cons rfl (fun K hK => ?_) (AllReadyH.cons rfl (fun K hK => ?_) AllReadyH.nil)
        · rw [if_pos (by rfl)]
          go_simp
          go_fit (i4 _)
          rintro e w3 ⟨rfl, hb3⟩
          have hS1 := hS0.on hb3
          refine hK.out _ _ hS1 (fun hHeld => ?_)
          clear hK K
          (try simp only [Act.put, List.setIfInBounds_toArray, List.set_cons_zero, List.set_cons_succ])
          refine wpAnyH_ready (rs := [5, 9]) (by kernel_rfl) (by simp) ?_
          refine AllReadyH.cons rfl (fun K hK => ?_) (AllReadyH.cons rfl (fun K hK => ?_) AllReadyH.nil)
          · rw [if_pos (by rfl)]
            go_simp
            go_fit (i5 _ hS1.2.1 hS1.1.2.2)
            rintro e w4 ⟨⟨v, rfl, hv⟩, hb4⟩
            obtain ⟨vp, vc, rfl, _⟩ := hv.row stC_len
            have hS2 := hS1.on hb4
            refine hK.out _ _ hS2 (fun hHeld => ?_)
            clear hK K
            (try simp only [Act.put, List.setIfInBounds_toArray, List.set_cons_zero, List.set_cons_succ])
            refine takeH (i := 6) (k := 29) (v := .tuple #[.agg #[.string (strOf r.1.f), .string (strOf r.1.o), .int .i64 r.1.n, .string (strOf []), .bool r.1.op, .bool r.1.cl, .bool r.1.de], (.slice vp r.2.length vc)]) rfl (by rfl) (by kernel_rfl) (by kernel_rfl) (by kernel_rfl) (fun _ _ _ h => h) (by rfl) ?_ hHeld ?_
            · intro w1 hSw; obtain ⟨⟨c0, c1, c2, c3, c4, c5, c6⟩, _⟩ := arr_sev hSw.1.1; go_simp; (try (intro hx; omega))
            (try simp only [Act.put, List.setIfInBounds_toArray, List.set_cons_zero, List.set_cons_succ])
            refine takeH (i := 7) (k := 36) (v := .agg #[.string (strOf r.1.f), .string (strOf r.1.o), .int .i64 r.1.n, .string (strOf []), .bool r.1.op, .bool r.1.cl, .bool r.1.de]) rfl (by rfl) (by kernel_rfl) (by kernel_rfl) (by kernel_rfl) (fun _ _ _ h => h) (by rfl) ?_ hHeld ?_
            · intro w1 hSw; obtain ⟨⟨c0, c1, c2, c3, c4, c5, c6⟩, _⟩ := arr_sev hSw.1.1; go_simp; (try (intro hx; omega))
            (try simp only [Act.put, List.setIfInBounds_toArray, List.set_cons_zero, List.set_cons_succ])
            refine takeH (i := 8) (k := 37) (v := (.slice vp r.2.length vc)) rfl (by rfl) (by kernel_rfl) (by kernel_rfl) (by kernel_rfl) (fun _ _ _ h => h) (by rfl) ?_ hHeld ?_
            · intro w1 hSw; obtain ⟨⟨c0, c1, c2, c3, c4, c5, c6⟩, _⟩ := arr_sev hSw.1.1; go_simp; (try (intro hx; omega))
            (try simp only [Act.put, List.setIfInBounds_toArray, List.set_cons_zero, List.set_cons_succ])
            refine wpAnyH_ready (rs := [9]) (by kernel_rfl) (by simp) ?_
            refine AllReadyH.cons rfl (fun K hK => ?_) AllReadyH.nil
            rw [if_pos (by rfl)]
            go_simp
            have hS3 := hS2.on ((Below.refl _ _).alloc (Nat.le_refl _) (.cells #[.string ⟨#[]⟩, .string ⟨#[]⟩, .int .i64 0, .string ⟨#[]⟩, .bool false, .bool false, .bool false] 29))
            refine hK.out _ _ hS3 (fun hHeld => ?_)
            clear hK K
            (try simp only [Act.put, List.setIfInBounds_toArray, List.set_cons_zero, List.set_cons_succ])
            have hzA : Arr (w4.alloc (.cells #[.string ⟨#[]⟩, .string ⟨#[]⟩, .int .i64 0, .string ⟨#[]⟩, .bool false, .bool false, .bool false] 29)) w4.heap.size 29 (smC zeroS []) := Arr.fresh _ _ _
            have hv3 := hv.alloc (.cells #[.string ⟨#[]⟩, .string ⟨#[]⟩, .int .i64 0, .string ⟨#[]⟩, .bool false, .bool false, .bool false] 29)
            have hzz : w2.heap.size + 1 ≤ w4.heap.size := hS2.2.2.1
            have hne : ∀ g, Value.ownBlock (.slice vp r.2.length vc) = some g → g ≠ w4.heap.size := fun g hg => by have := (own_lt hv g hg).2; omega
            obtain ⟨z, hz⟩ : ∃ z, w4.heap.size = z := ⟨_, rfl⟩
            rw [hz] at hzA hzz hne ⊢
            refine wpAnyH_ready (rs := [10]) (by kernel_rfl) (by simp) ?_
            refine AllReadyH.cons rfl (fun K hK => ?_) AllReadyH.nil
            rw [if_pos (by rfl)]
            refine wp_store_row 29 _ _ rfl z _ rfl rfl 29 _ hzA (by kernel_rfl) (by rfl) (by kernel_rfl) ?_
            have hR0 : RB w w2 s R ws r (.slice vp r.2.length vc) z (World.setRow (w4.alloc (.cells #[.string ⟨#[]⟩, .string ⟨#[]⟩, .int .i64 0, .string ⟨#[]⟩, .bool false, .bool false, .bool false] 29)) z #[.string (strOf r.1.f), .string (strOf r.1.o), .int .i64 r.1.n, .string (strOf []), .bool r.1.op, .bool r.1.cl, .bool r.1.de]) := RB.of hS3 hzz hzA hv3 hS1.2.2.1 hne
            refine hK.out _ _ hR0.1 (fun hHeld => ?_)
            clear hK K
            (try simp only [Act.put, List.setIfInBounds_toArray, List.set_cons_zero, List.set_cons_succ])
            refine takeH (i := 11) (k := 8) (v := (.slice vp r.2.length vc)) rfl (by rfl) (by kernel_rfl) (by kernel_rfl) (by kernel_rfl) (fun _ _ _ h => h) (by rfl) ?_ hHeld ?_
            · intro w1 hSw; obtain ⟨⟨c0, c1, c2, c3, c4, c5, c6⟩, _⟩ := arr_sev hSw.1.1; go_simp; (try (intro hx; omega))
            (try simp only [Act.put, List.setIfInBounds_toArray, List.set_cons_zero, List.set_cons_succ])
            refine wpAnyH_done (by kernel_rfl) ?_ _
            generalize World.setRow (w4.alloc (.cells #[.string ⟨#[]⟩, .string ⟨#[]⟩, .int .i64 0, .string ⟨#[]⟩, .bool false, .bool false, .bool false] 29)) z #[.string (strOf r.1.f), .string (strOf r.1.o), .int .i64 r.1.n, .string (strOf []), .bool r.1.op, .bool r.1.cl, .bool r.1.de] = W9 at hR0 hHeld ⊢
            clear hHeld hS0 hS1 hS2 hS3 hzA hv3 hv hne hb3 hb4 hz hzz
            go_wp2
            have hR1 := hR0.on (Below.refl _ _).drew
            refine wp_region_held_drew (S := RS w2 q L r z) (by kernel_rfl) (RS.of hR1 HL.out) (fun hHeld => ?_)
            generalize W9.drew = W8 at hR1 hHeld ⊢
            refine takeH (i := 0) (k := 38) (v := .agg #[.string (strOf r.1.f), .string (strOf r.1.o), .int .i64 r.1.n, .string (strOf []), .bool r.1.op, .bool r.1.cl, .bool r.1.de]) rfl (by rfl) (by kernel_rfl) (by kernel_rfl) (by kernel_rfl) (fun _ _ _ h => h) (by rfl) ?_ hHeld ?_
            · intro w1 hSw; obtain ⟨⟨c0, c1, c2, c3, c4, c5, c6⟩, _⟩ := arr_sev hSw.2; have cq := hSw.1; go_simp; (try (intro hx; omega)); (try rfl)
            (try simp only [Act.put, List.setIfInBounds_toArray, List.set_cons_zero, List.set_cons_succ])
            refine takeH (i := 1) (k := 39) (v := .slice (some ⟨w2.heap.size, 0, none⟩) (q + 1) (q + 1)) rfl (by rfl) (by kernel_rfl) (by kernel_rfl) (by kernel_rfl) (fun _ _ _ h => h) (by rfl) ?_ hHeld ?_
            · intro w1 hSw; obtain ⟨⟨c0, c1, c2, c3, c4, c5, c6⟩, _⟩ := arr_sev hSw.2; have cq := hSw.1; go_simp; (try (intro hx; omega)); (try rfl)
            (try simp only [Act.put, List.setIfInBounds_toArray, List.set_cons_zero, List.set_cons_succ])
            refine takeH (i := 2) (k := 40) (v := .int .i64 (q : Int)) rfl (by rfl) (by kernel_rfl) (by kernel_rfl) (by kernel_rfl) (fun _ _ _ h => h) (by rfl) ?_ hHeld ?_
            · intro w1 hSw; obtain ⟨⟨c0, c1, c2, c3, c4, c5, c6⟩, _⟩ := arr_sev hSw.2; have cq := hSw.1; go_simp; (try (intro hx; omega)); (try rfl)
            (try simp only [Act.put, List.setIfInBounds_toArray, List.set_cons_zero, List.set_cons_succ])
            refine takeH (i := 3) (k := 41) (v := .pointer (some ⟨w2.heap.size, q, none⟩)) rfl (by rfl) (by kernel_rfl) (by kernel_rfl) (by kernel_rfl) (fun _ _ _ h => h) (by rfl) ?_ hHeld ?_
            · intro w1 hSw; obtain ⟨⟨c0, c1, c2, c3, c4, c5, c6⟩, _⟩ := arr_sev hSw.2; have cq := hSw.1; go_simp; (try (intro hx; omega)); (try rfl)
            (try simp only [Act.put, List.setIfInBounds_toArray, List.set_cons_zero, List.set_cons_succ])
            refine takeH (i := 4) (k := 42) (v := .string L) rfl (by rfl) (by kernel_rfl) (by kernel_rfl) (by kernel_rfl) (fun _ _ _ h => h) (by rfl) ?_ hHeld ?_
            · intro w1 hSw; obtain ⟨⟨c0, c1, c2, c3, c4, c5, c6⟩, _⟩ := arr_sev hSw.2; have cq := hSw.1; go_simp; (try (intro hx; omega)); (try rfl)
            (try simp only [Act.put, List.setIfInBounds_toArray, List.set_cons_zero, List.set_cons_succ])
            refine takeH (i := 6) (k := 44) (v := (.slice vp r.2.length vc)) rfl (by rfl) (by kernel_rfl) (by kernel_rfl) (by kernel_rfl) (fun _ _ _ h => h) (by rfl) ?_ hHeld ?_
            · intro w1 hSw; obtain ⟨⟨c0, c1, c2, c3, c4, c5, c6⟩, _⟩ := arr_sev hSw.2; have cq := hSw.1; go_simp; (try (intro hx; omega)); (try rfl)
            (try simp only [Act.put, List.setIfInBounds_toArray, List.set_cons_zero, List.set_cons_succ])
            refine wpAnyH_ready (rs := [5]) (by kernel_rfl) (by simp) ?_
            refine AllReadyH.cons rfl (fun K hK => ?_) AllReadyH.nil
            rw [if_pos (by rfl)]
            go_simp
            go_fit (i6 _)
            rintro e w5 ⟨rfl, hb5⟩
            have hR2 := hR1.on hb5
            refine hK.out _ _ (RS.of hR2 HL.out) (fun hHeld => ?_)
            clear hK K
            (try simp only [Act.put, List.setIfInBounds_toArray, List.set_cons_zero, List.set_cons_succ])
            refine takeH (i := 7) (k := 45) (v := soV oo (.slice vp r.2.length vc) 0) rfl (by rfl) (by kernel_rfl) (by kernel_rfl) (by kernel_rfl) (fun _ _ _ h => h) (by rfl) ?_ hHeld ?_
            · intro w1 hSw; obtain ⟨⟨c0, c1, c2, c3, c4, c5, c6⟩, _⟩ := arr_sev hSw.2; have cq := hSw.1; go_simp; (try (intro hx; omega)); (try rfl)
            (try simp only [Act.put, List.setIfInBounds_toArray, List.set_cons_zero, List.set_cons_succ])
            refine wpAnyH_ready (rs := [8]) (by kernel_rfl) (by simp) ?_
            refine AllReadyH.cons rfl (fun K hK => ?_) AllReadyH.nil
            rw [if_pos (by rfl)]
            refine wp_store_row 32 _ _ rfl (w.heap.size + 1) _ rfl rfl 32 _ hR2.1.1.2.1 (by kernel_rfl) (by rfl) (by kernel_rfl) ?_
            refine hK.out _ _ (RS.row hR2 HL.out _) (fun hHeld => ?_)
            clear hK K
            (try simp only [Act.put, List.setIfInBounds_toArray, List.set_cons_zero, List.set_cons_succ])
            refine wpAnyH_done (by kernel_rfl) ?_ _
            go_wp2
            exact bodyPost_ret (v := soV oo (.slice vp r.2.length vc) 0) (results_cell_row (P := Tryz.prog) Tryz.results9 _ _ (w.heap.size + 1) 32 _ (0, 0) _ rfl (setRow_heap _ _ _ _ _ _ hR2.1.1.2.1) Tryz.underlying32 rfl (by kernel_rfl)) rfl ⟨⟨_, by rw [HO.out], by rw [HO.out, HX.out]; exact (hR2.2.2.1.setRow (fun g hg => by have := (own_lt hR2.2.2.1 g hg).1; omega) _).mono (by omega)⟩, below_setRow hR2.1.1.2.2 (Nat.le_succ _) _⟩
          · rw [if_pos (by rfl)]
            go_simp
            have hSa := hS1.on ((Below.refl _ _).alloc (Nat.le_refl _) (.cells #[.string ⟨#[]⟩, .string ⟨#[]⟩, .int .i64 0, .string ⟨#[]⟩, .bool false, .bool false, .bool false] 29))
            refine hK.out _ _ hSa (fun hHeld => ?_)
            clear hK K
            (try simp only [Act.put, List.setIfInBounds_toArray, List.set_cons_zero, List.set_cons_succ])
            have hzA : Arr (w3.alloc (.cells #[.string ⟨#[]⟩, .string ⟨#[]⟩, .int .i64 0, .string ⟨#[]⟩, .bool false, .bool false, .bool false] 29)) w3.heap.size 29 (smC zeroS []) := Arr.fresh _ _ _
            have hzz : w2.heap.size + 1 ≤ w3.heap.size := hS1.2.2.1
            have hzl := arr_lt hzA
            obtain ⟨z, hz⟩ : ∃ z, w3.heap.size = z := ⟨_, rfl⟩
            rw [hz] at hzA hzz hzl ⊢
            refine wpAnyH_ready (rs := [5]) (by kernel_rfl) (by simp) ?_
            refine AllReadyH.cons rfl (fun K hK => ?_) AllReadyH.nil
            rw [if_pos (by rfl)]
            go_simp
            go_fit (i5 _ hSa.2.1 hSa.1.2.2)
            rintro e w4 ⟨⟨v, rfl, hv⟩, hb4⟩
            obtain ⟨vp, vc, rfl, _⟩ := hv.row stC_len
            have hS2 := hSa.on hb4
            refine hK.out _ _ hS2 (fun hHeld => ?_)
            clear hK K
            (try simp only [Act.put, List.setIfInBounds_toArray, List.set_cons_zero, List.set_cons_succ])
            refine takeH (i := 6) (k := 29) (v := .tuple #[.agg #[.string (strOf r.1.f), .string (strOf r.1.o), .int .i64 r.1.n, .string (strOf []), .bool r.1.op, .bool r.1.cl, .bool r.1.de], (.slice vp r.2.length vc)]) rfl (by rfl) (by kernel_rfl) (by kernel_rfl) (by kernel_rfl) (fun _ _ _ h => h) (by rfl) ?_ hHeld ?_
            · intro w1 hSw; obtain ⟨⟨c0, c1, c2, c3, c4, c5, c6⟩, _⟩ := arr_sev hSw.1.1; go_simp; (try (intro hx; omega))
            (try simp only [Act.put, List.setIfInBounds_toArray, List.set_cons_zero, List.set_cons_succ])
            refine takeH (i := 7) (k := 36) (v := .agg #[.string (strOf r.1.f), .string (strOf r.1.o), .int .i64 r.1.n, .string (strOf []), .bool r.1.op, .bool r.1.cl, .bool r.1.de]) rfl (by rfl) (by kernel_rfl) (by kernel_rfl) (by kernel_rfl) (fun _ _ _ h => h) (by rfl) ?_ hHeld ?_
            · intro w1 hSw; obtain ⟨⟨c0, c1, c2, c3, c4, c5, c6⟩, _⟩ := arr_sev hSw.1.1; go_simp; (try (intro hx; omega))
            (try simp only [Act.put, List.setIfInBounds_toArray, List.set_cons_zero, List.set_cons_succ])
            refine takeH (i := 8) (k := 37) (v := (.slice vp r.2.length vc)) rfl (by rfl) (by kernel_rfl) (by kernel_rfl) (by kernel_rfl) (fun _ _ _ h => h) (by rfl) ?_ hHeld ?_
            · intro w1 hSw; obtain ⟨⟨c0, c1, c2, c3, c4, c5, c6⟩, _⟩ := arr_sev hSw.1.1; go_simp; (try (intro hx; omega))
            (try simp only [Act.put, List.setIfInBounds_toArray, List.set_cons_zero, List.set_cons_succ])
            have hzB := arr_below hzA hb4
            have hne : ∀ g, Value.ownBlock (.slice vp r.2.length vc) = some g → g ≠ z := fun g hg => by have := (own_lt hv g hg).1; omega
            refine wpAnyH_ready (rs := [10]) (by kernel_rfl) (by simp) ?_
            refine AllReadyH.cons rfl (fun K hK => ?_) AllReadyH.nil
            rw [if_pos (by rfl)]
            refine wp_store_row 29 _ _ rfl z _ rfl rfl 29 _ hzB (by kernel_rfl) (by rfl) (by kernel_rfl) ?_
            have hR0 : RB w w2 s R ws r (.slice vp r.2.length vc) z (World.setRow (w4) z #[.string (strOf r.1.f), .string (strOf r.1.o), .int .i64 r.1.n, .string (strOf []), .bool r.1.op, .bool r.1.cl, .bool r.1.de]) := RB.of hS2 hzz hzB hv hSa.2.2.1 hne
            refine hK.out _ _ hR0.1 (fun hHeld => ?_)
            clear hK K
            (try simp only [Act.put, List.setIfInBounds_toArray, List.set_cons_zero, List.set_cons_succ])
            refine takeH (i := 11) (k := 8) (v := (.slice vp r.2.length vc)) rfl (by rfl) (by kernel_rfl) (by kernel_rfl) (by kernel_rfl) (fun _ _ _ h => h) (by rfl) ?_ hHeld ?_
            · intro w1 hSw; obtain ⟨⟨c0, c1, c2, c3, c4, c5, c6⟩, _⟩ := arr_sev hSw.1.1; go_simp; (try (intro hx; omega))
            (try simp only [Act.put, List.setIfInBounds_toArray, List.set_cons_zero, List.set_cons_succ])
            refine wpAnyH_done (by kernel_rfl) ?_ _
            generalize World.setRow (w4) z #[.string (strOf r.1.f), .string (strOf r.1.o), .int .i64 r.1.n, .string (strOf []), .bool r.1.op, .bool r.1.cl, .bool r.1.de] = W9 at hR0 hHeld ⊢
            clear hHeld hS0 hS1 hS2 hSa hzA hzB hv hne hb3 hb4 hz hzz hzl
            go_wp2
            have hR1 := hR0.on (Below.refl _ _).drew
            refine wp_region_held_drew (S := RS w2 q L r z) (by kernel_rfl) (RS.of hR1 HL.out) (fun hHeld => ?_)
            generalize W9.drew = W8 at hR1 hHeld ⊢
            refine takeH (i := 0) (k := 38) (v := .agg #[.string (strOf r.1.f), .string (strOf r.1.o), .int .i64 r.1.n, .string (strOf []), .bool r.1.op, .bool r.1.cl, .bool r.1.de]) rfl (by rfl) (by kernel_rfl) (by kernel_rfl) (by kernel_rfl) (fun _ _ _ h => h) (by rfl) ?_ hHeld ?_
            · intro w1 hSw; obtain ⟨⟨c0, c1, c2, c3, c4, c5, c6⟩, _⟩ := arr_sev hSw.2; have cq := hSw.1; go_simp; (try (intro hx; omega)); (try rfl)
            (try simp only [Act.put, List.setIfInBounds_toArray, List.set_cons_zero, List.set_cons_succ])
            refine takeH (i := 1) (k := 39) (v := .slice (some ⟨w2.heap.size, 0, none⟩) (q + 1) (q + 1)) rfl (by rfl) (by kernel_rfl) (by kernel_rfl) (by kernel_rfl) (fun _ _ _ h => h) (by rfl) ?_ hHeld ?_
            · intro w1 hSw; obtain ⟨⟨c0, c1, c2, c3, c4, c5, c6⟩, _⟩ := arr_sev hSw.2; have cq := hSw.1; go_simp; (try (intro hx; omega)); (try rfl)
            (try simp only [Act.put, List.setIfInBounds_toArray, List.set_cons_zero, List.set_cons_succ])
            refine takeH (i := 2) (k := 40) (v := .int .i64 (q : Int)) rfl (by rfl) (by kernel_rfl) (by kernel_rfl) (by kernel_rfl) (fun _ _ _ h => h) (by rfl) ?_ hHeld ?_
            · intro w1 hSw; obtain ⟨⟨c0, c1, c2, c3, c4, c5, c6⟩, _⟩ := arr_sev hSw.2; have cq := hSw.1; go_simp; (try (intro hx; omega)); (try rfl)
            (try simp only [Act.put, List.setIfInBounds_toArray, List.set_cons_zero, List.set_cons_succ])
            refine takeH (i := 3) (k := 41) (v := .pointer (some ⟨w2.heap.size, q, none⟩)) rfl (by rfl) (by kernel_rfl) (by kernel_rfl) (by kernel_rfl) (fun _ _ _ h => h) (by rfl) ?_ hHeld ?_
            · intro w1 hSw; obtain ⟨⟨c0, c1, c2, c3, c4, c5, c6⟩, _⟩ := arr_sev hSw.2; have cq := hSw.1; go_simp; (try (intro hx; omega)); (try rfl)
            (try simp only [Act.put, List.setIfInBounds_toArray, List.set_cons_zero, List.set_cons_succ])
            refine takeH (i := 4) (k := 42) (v := .string L) rfl (by rfl) (by kernel_rfl) (by kernel_rfl) (by kernel_rfl) (fun _ _ _ h => h) (by rfl) ?_ hHeld ?_
            · intro w1 hSw; obtain ⟨⟨c0, c1, c2, c3, c4, c5, c6⟩, _⟩ := arr_sev hSw.2; have cq := hSw.1; go_simp; (try (intro hx; omega)); (try rfl)
            (try simp only [Act.put, List.setIfInBounds_toArray, List.set_cons_zero, List.set_cons_succ])
            refine takeH (i := 6) (k := 44) (v := (.slice vp r.2.length vc)) rfl (by rfl) (by kernel_rfl) (by kernel_rfl) (by kernel_rfl) (fun _ _ _ h => h) (by rfl) ?_ hHeld ?_
            · intro w1 hSw; obtain ⟨⟨c0, c1, c2, c3, c4, c5, c6⟩, _⟩ := arr_sev hSw.2; have cq := hSw.1; go_simp; (try (intro hx; omega)); (try rfl)
            (try simp only [Act.put, List.setIfInBounds_toArray, List.set_cons_zero, List.set_cons_succ])
            refine wpAnyH_ready (rs := [5]) (by kernel_rfl) (by simp) ?_
            refine AllReadyH.cons rfl (fun K hK => ?_) AllReadyH.nil
            rw [if_pos (by rfl)]
            go_simp
            go_fit (i6 _)
            rintro e w5 ⟨rfl, hb5⟩
            have hR2 := hR1.on hb5
            refine hK.out _ _ (RS.of hR2 HL.out) (fun hHeld => ?_)
            clear hK K
            (try simp only [Act.put, List.setIfInBounds_toArray, List.set_cons_zero, List.set_cons_succ])
            refine takeH (i := 7) (k := 45) (v := soV oo (.slice vp r.2.length vc) 0) rfl (by rfl) (by kernel_rfl) (by kernel_rfl) (by kernel_rfl) (fun _ _ _ h => h) (by rfl) ?_ hHeld ?_
            · intro w1 hSw; obtain ⟨⟨c0, c1, c2, c3, c4, c5, c6⟩, _⟩ := arr_sev hSw.2; have cq := hSw.1; go_simp; (try (intro hx; omega)); (try rfl)
            (try simp only [Act.put, List.setIfInBounds_toArray, List.set_cons_zero, List.set_cons_succ])
            refine wpAnyH_ready (rs := [8]) (by kernel_rfl) (by simp) ?_
            refine AllReadyH.cons rfl (fun K hK => ?_) AllReadyH.nil
            rw [if_pos (by rfl)]
            refine wp_store_row 32 _ _ rfl (w.heap.size + 1) _ rfl rfl 32 _ hR2.1.1.2.1 (by kernel_rfl) (by rfl) (by kernel_rfl) ?_
            refine hK.out _ _ (RS.row hR2 HL.out _) (fun hHeld => ?_)
            clear hK K
            (try simp only [Act.put, List.setIfInBounds_toArray, List.set_cons_zero, List.set_cons_succ])
            refine wpAnyH_done (by kernel_rfl) ?_ _
            go_wp2
            exact bodyPost_ret (v := soV oo (.slice vp r.2.length vc) 0) (results_cell_row (P := Tryz.prog) Tryz.results9 _ _ (w.heap.size + 1) 32 _ (0, 0) _ rfl (setRow_heap _ _ _ _ _ _ hR2.1.1.2.1) Tryz.underlying32 rfl (by kernel_rfl)) rfl ⟨⟨_, by rw [HO.out], by rw [HO.out, HX.out]; exact (hR2.2.2.1.setRow (fun g hg => by have := (own_lt hR2.2.2.1 g hg).1; omega) _).mono (by omega)⟩, below_setRow hR2.1.1.2.2 (Nat.le_succ _) _⟩
        · rw [if_pos (by rfl)]
          go_simp
          have hSa := hS0.on ((Below.refl _ _).alloc (Nat.le_refl _) (.cells #[.string ⟨#[]⟩, .string ⟨#[]⟩, .int .i64 0, .string ⟨#[]⟩, .bool false, .bool false, .bool false] 29))
          refine hK.out _ _ hSa (fun hHeld => ?_)
          clear hK K
          (try simp only [Act.put, List.setIfInBounds_toArray, List.set_cons_zero, List.set_cons_succ])
          have hzA : Arr (wm.alloc (.cells #[.string ⟨#[]⟩, .string ⟨#[]⟩, .int .i64 0, .string ⟨#[]⟩, .bool false, .bool false, .bool false] 29)) wm.heap.size 29 (smC zeroS []) := Arr.fresh _ _ _
          have hzz : w2.heap.size + 1 ≤ wm.heap.size := hS0.2.2.1
          have hzl := arr_lt hzA
          obtain ⟨z, hz⟩ : ∃ z, wm.heap.size = z := ⟨_, rfl⟩
          rw [hz] at hzA hzz hzl ⊢
          refine wpAnyH_ready (rs := [1]) (by kernel_rfl) (by simp) ?_
          refine AllReadyH.cons rfl (fun K hK => ?_) AllReadyH.nil
          rw [if_pos (by rfl)]
          go_simp
          go_fit (i4 _)
          rintro e w3 ⟨rfl, hb3⟩
          have hS1 := hSa.on hb3
          refine hK.out _ _ hS1 (fun hHeld => ?_)
          clear hK K
          (try simp only [Act.put, List.setIfInBounds_toArray, List.set_cons_zero, List.set_cons_succ])
          refine wpAnyH_ready (rs := [5]) (by kernel_rfl) (by simp) ?_
          refine AllReadyH.cons rfl (fun K hK => ?_) AllReadyH.nil
          rw [if_pos (by rfl)]
          go_simp
          go_fit (i5 _ hS1.2.1 hS1.1.2.2)
          rintro e w4 ⟨⟨v, rfl, hv⟩, hb4⟩
          obtain ⟨vp, vc, rfl, _⟩ := hv.row stC_len
          have hS2 := hS1.on hb4
          refine hK.out _ _ hS2 (fun hHeld => ?_)
          clear hK K
          (try simp only [Act.put, List.setIfInBounds_toArray, List.set_cons_zero, List.set_cons_succ])
          refine takeH (i := 6) (k := 29) (v := .tuple #[.agg #[.string (strOf r.1.f), .string (strOf r.1.o), .int .i64 r.1.n, .string (strOf []), .bool r.1.op, .bool r.1.cl, .bool r.1.de], (.slice vp r.2.length vc)]) rfl (by rfl) (by kernel_rfl) (by kernel_rfl) (by kernel_rfl) (fun _ _ _ h => h) (by rfl) ?_ hHeld ?_
          · intro w1 hSw; obtain ⟨⟨c0, c1, c2, c3, c4, c5, c6⟩, _⟩ := arr_sev hSw.1.1; go_simp; (try (intro hx; omega))
          (try simp only [Act.put, List.setIfInBounds_toArray, List.set_cons_zero, List.set_cons_succ])
          refine takeH (i := 7) (k := 36) (v := .agg #[.string (strOf r.1.f), .string (strOf r.1.o), .int .i64 r.1.n, .string (strOf []), .bool r.1.op, .bool r.1.cl, .bool r.1.de]) rfl (by rfl) (by kernel_rfl) (by kernel_rfl) (by kernel_rfl) (fun _ _ _ h => h) (by rfl) ?_ hHeld ?_
          · intro w1 hSw; obtain ⟨⟨c0, c1, c2, c3, c4, c5, c6⟩, _⟩ := arr_sev hSw.1.1; go_simp; (try (intro hx; omega))
          (try simp only [Act.put, List.setIfInBounds_toArray, List.set_cons_zero, List.set_cons_succ])
          refine takeH (i := 8) (k := 37) (v := (.slice vp r.2.length vc)) rfl (by rfl) (by kernel_rfl) (by kernel_rfl) (by kernel_rfl) (fun _ _ _ h => h) (by rfl) ?_ hHeld ?_
          · intro w1 hSw; obtain ⟨⟨c0, c1, c2, c3, c4, c5, c6⟩, _⟩ := arr_sev hSw.1.1; go_simp; (try (intro hx; omega))
          (try simp only [Act.put, List.setIfInBounds_toArray, List.set_cons_zero, List.set_cons_succ])
          have hzB := arr_below (arr_below hzA hb3) hb4
          have hne : ∀ g, Value.ownBlock (.slice vp r.2.length vc) = some g → g ≠ z := fun g hg => by have h1 := (own_lt hv g hg).1; have h2 := hb3.size; omega
          refine wpAnyH_ready (rs := [10]) (by kernel_rfl) (by simp) ?_
          refine AllReadyH.cons rfl (fun K hK => ?_) AllReadyH.nil
          rw [if_pos (by rfl)]
          refine wp_store_row 29 _ _ rfl z _ rfl rfl 29 _ hzB (by kernel_rfl) (by rfl) (by kernel_rfl) ?_
          have hR0 : RB w w2 s R ws r (.slice vp r.2.length vc) z (World.setRow (w4) z #[.string (strOf r.1.f), .string (strOf r.1.o), .int .i64 r.1.n, .string (strOf []), .bool r.1.op, .bool r.1.cl, .bool r.1.de]) := RB.of hS2 hzz hzB hv hS1.2.2.1 hne
          refine hK.out _ _ hR0.1 (fun hHeld => ?_)
          clear hK K
          (try simp only [Act.put, List.setIfInBounds_toArray, List.set_cons_zero, List.set_cons_succ])
          refine takeH (i := 11) (k := 8) (v := (.slice vp r.2.length vc)) rfl (by rfl) (by kernel_rfl) (by kernel_rfl) (by kernel_rfl) (fun _ _ _ h => h) (by rfl) ?_ hHeld ?_
          · intro w1 hSw; obtain ⟨⟨c0, c1, c2, c3, c4, c5, c6⟩, _⟩ := arr_sev hSw.1.1; go_simp; (try (intro hx; omega))
          (try simp only [Act.put, List.setIfInBounds_toArray, List.set_cons_zero, List.set_cons_succ])
          refine wpAnyH_done (by kernel_rfl) ?_ _
          generalize World.setRow (w4) z #[.string (strOf r.1.f), .string (strOf r.1.o), .int .i64 r.1.n, .string (strOf []), .bool r.1.op, .bool r.1.cl, .bool r.1.de] = W9 at hR0 hHeld ⊢
          clear hHeld hS0 hS1 hS2 hSa hzA hzB hv hne hb3 hb4 hz hzz hzl
          go_wp2
          have hR1 := hR0.on (Below.refl _ _).drew
          refine wp_region_held_drew (S := RS w2 q L r z) (by kernel_rfl) (RS.of hR1 HL.out) (fun hHeld => ?_)
          generalize W9.drew = W8 at hR1 hHeld ⊢
          refine takeH (i := 0) (k := 38) (v := .agg #[.string (strOf r.1.f), .string (strOf r.1.o), .int .i64 r.1.n, .string (strOf []), .bool r.1.op, .bool r.1.cl, .bool r.1.de]) rfl (by rfl) (by kernel_rfl) (by kernel_rfl) (by kernel_rfl) (fun _ _ _ h => h) (by rfl) ?_ hHeld ?_
          · intro w1 hSw; obtain ⟨⟨c0, c1, c2, c3, c4, c5, c6⟩, _⟩ := arr_sev hSw.2; have cq := hSw.1; go_simp; (try (intro hx; omega)); (try rfl)
          (try simp only [Act.put, List.setIfInBounds_toArray, List.set_cons_zero, List.set_cons_succ])
          refine takeH (i := 1) (k := 39) (v := .slice (some ⟨w2.heap.size, 0, none⟩) (q + 1) (q + 1)) rfl (by rfl) (by kernel_rfl) (by kernel_rfl) (by kernel_rfl) (fun _ _ _ h => h) (by rfl) ?_ hHeld ?_
          · intro w1 hSw; obtain ⟨⟨c0, c1, c2, c3, c4, c5, c6⟩, _⟩ := arr_sev hSw.2; have cq := hSw.1; go_simp; (try (intro hx; omega)); (try rfl)
          (try simp only [Act.put, List.setIfInBounds_toArray, List.set_cons_zero, List.set_cons_succ])
          refine takeH (i := 2) (k := 40) (v := .int .i64 (q : Int)) rfl (by rfl) (by kernel_rfl) (by kernel_rfl) (by kernel_rfl) (fun _ _ _ h => h) (by rfl) ?_ hHeld ?_
          · intro w1 hSw; obtain ⟨⟨c0, c1, c2, c3, c4, c5, c6⟩, _⟩ := arr_sev hSw.2; have cq := hSw.1; go_simp; (try (intro hx; omega)); (try rfl)
          (try simp only [Act.put, List.setIfInBounds_toArray, List.set_cons_zero, List.set_cons_succ])
          refine takeH (i := 3) (k := 41) (v := .pointer (some ⟨w2.heap.size, q, none⟩)) rfl (by rfl) (by kernel_rfl) (by kernel_rfl) (by kernel_rfl) (fun _ _ _ h => h) (by rfl) ?_ hHeld ?_
          · intro w1 hSw; obtain ⟨⟨c0, c1, c2, c3, c4, c5, c6⟩, _⟩ := arr_sev hSw.2; have cq := hSw.1; go_simp; (try (intro hx; omega)); (try rfl)
          (try simp only [Act.put, List.setIfInBounds_toArray, List.set_cons_zero, List.set_cons_succ])
          refine takeH (i := 4) (k := 42) (v := .string L) rfl (by rfl) (by kernel_rfl) (by kernel_rfl) (by kernel_rfl) (fun _ _ _ h => h) (by rfl) ?_ hHeld ?_
          · intro w1 hSw; obtain ⟨⟨c0, c1, c2, c3, c4, c5, c6⟩, _⟩ := arr_sev hSw.2; have cq := hSw.1; go_simp; (try (intro hx; omega)); (try rfl)
          (try simp only [Act.put, List.setIfInBounds_toArray, List.set_cons_zero, List.set_cons_succ])
          refine takeH (i := 6) (k := 44) (v := (.slice vp r.2.length vc)) rfl (by rfl) (by kernel_rfl) (by kernel_rfl) (by kernel_rfl) (fun _ _ _ h => h) (by rfl) ?_ hHeld ?_
          · intro w1 hSw; obtain ⟨⟨c0, c1, c2, c3, c4, c5, c6⟩, _⟩ := arr_sev hSw.2; have cq := hSw.1; go_simp; (try (intro hx; omega)); (try rfl)
          (try simp only [Act.put, List.setIfInBounds_toArray, List.set_cons_zero, List.set_cons_succ])
          refine wpAnyH_ready (rs := [5]) (by kernel_rfl) (by simp) ?_
          refine AllReadyH.cons rfl (fun K hK => ?_) AllReadyH.nil
          rw [if_pos (by rfl)]
          go_simp
          go_fit (i6 _)
          rintro e w5 ⟨rfl, hb5⟩
          have hR2 := hR1.on hb5
          refine hK.out _ _ (RS.of hR2 HL.out) (fun hHeld => ?_)
          clear hK K
          (try simp only [Act.put, List.setIfInBounds_toArray, List.set_cons_zero, List.set_cons_succ])
          refine takeH (i := 7) (k := 45) (v := soV oo (.slice vp r.2.length vc) 0) rfl (by rfl) (by kernel_rfl) (by kernel_rfl) (by kernel_rfl) (fun _ _ _ h => h) (by rfl) ?_ hHeld ?_
          · intro w1 hSw; obtain ⟨⟨c0, c1, c2, c3, c4, c5, c6⟩, _⟩ := arr_sev hSw.2; have cq := hSw.1; go_simp; (try (intro hx; omega)); (try rfl)
          (try simp only [Act.put, List.setIfInBounds_toArray, List.set_cons_zero, List.set_cons_succ])
          refine wpAnyH_ready (rs := [8]) (by kernel_rfl) (by simp) ?_
          refine AllReadyH.cons rfl (fun K hK => ?_) AllReadyH.nil
          rw [if_pos (by rfl)]
          refine wp_store_row 32 _ _ rfl (w.heap.size + 1) _ rfl rfl 32 _ hR2.1.1.2.1 (by kernel_rfl) (by rfl) (by kernel_rfl) ?_
          refine hK.out _ _ (RS.row hR2 HL.out _) (fun hHeld => ?_)
          clear hK K
          (try simp only [Act.put, List.setIfInBounds_toArray, List.set_cons_zero, List.set_cons_succ])
          refine wpAnyH_done (by kernel_rfl) ?_ _
          go_wp2
          exact bodyPost_ret (v := soV oo (.slice vp r.2.length vc) 0) (results_cell_row (P := Tryz.prog) Tryz.results9 _ _ (w.heap.size + 1) 32 _ (0, 0) _ rfl (setRow_heap _ _ _ _ _ _ hR2.1.1.2.1) Tryz.underlying32 rfl (by kernel_rfl)) rfl ⟨⟨_, by rw [HO.out], by rw [HO.out, HX.out]; exact (hR2.2.2.1.setRow (fun g hg => by have := (own_lt hR2.2.2.1 g hg).1; omega) _).mono (by omega)⟩, below_setRow hR2.1.1.2.2 (Nat.le_succ _) _⟩
end Go.Proofs.YtgcfognljkebjaaGreatDoor
