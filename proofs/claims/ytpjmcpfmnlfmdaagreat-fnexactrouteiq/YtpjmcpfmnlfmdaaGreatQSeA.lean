/- Several parts in one text: SeRow, SeFrame, SeMath, SeCmp, SeSmall, SeRightI, SeRightS, ArSession, EqSession, SeLawR, SeAt, SeCopy, SeWithI, SeWithS. -/
import Derived.Test.YtpjmcpfmnlfmdaaGreatChecked
import Derived.Test.YtpjmcpfmnlfmdaaGreatQBase
import Derived.WalkKit
import Derived.ProofKit
import Derived.OpenShut
import Derived.ShutString
import Derived.Lib.SmallJoins
import Derived.Deep.Slices
import Derived.Deep.RegionHeld3
import Derived.IntWalk
import Derived.Laws.Cover1
import Derived.Deep.DeepFit
import Derived.Deep.MidRow
import Derived.Laws.CopyOwn
import Derived.OwnWalk
import Derived.Laws.AppendOwn
import Derived.Lib.SliceRun
namespace Go.Proofs.YtpjmcpfmnlfmdaaGreat
set_option linter.unusedSimpArgs false
set_option linter.unusedVariables false
open Go.ChangeShapes Go.WideShapes Go.ChangeAt Go.RowKit Go.Joins

/-- A session: resource, on, priority, show. -/
structure SeL where
  r : ByteArray
  o : Bool
  p : Int
  s : ByteArray
instance : Inhabited SeL := ⟨⟨ByteArray.empty, false, 0, ByteArray.empty⟩⟩
def seC (x : SeL) : List Value := [.string x.r, .bool x.o, .int .i64 x.p, .string x.s]
def seV (x : SeL) : Value := .agg #[.string x.r, .bool x.o, .int .i64 x.p, .string x.s]
theorem seC_len (x : SeL) : (seC x).length = 4 := rfl
theorem seC_one (x : SeL) : ∀ u ∈ seC x, u.oneCell' = true := by
  intro u hu
  simp [seC] at hu
  rcases hu with rfl | rfl | rfl | rfl <;> rfl
/-- Strings and numbers as the machine has them. -/
def SeL.wf (x : SeL) : Prop := x.r.size ≤ maxLen ∧ (Lit.int .i64 x.p).wf = true ∧ x.s.size ≤ maxLen
theorem cellsSe : Tryz.prog.cellsOf 72 = 4 := by kernel_rfl
theorem cellsStr9 : Tryz.prog.cellsOf 9 = 1 := by kernel_rfl
theorem cellsI649 : Tryz.prog.cellsOf 2 = 1 := by kernel_rfl
theorem cellsBo9 : Tryz.prog.cellsOf 4 = 1 := by kernel_rfl
/-- The elements of a slice that came in lie at a stretch of a block. -/
def RowA {α : Type} (enc : α → List Value) (size : Nat) (w : World) (p : Option Addr) (xs : List α) : Prop := xs ≠ [] → ∃ g o, p = some ⟨g, o, none⟩ ∧ g < w.heap.size ∧ ∀ i (h : i < xs.length) j, j < size → w.cell? ⟨g, o + (i * size + j), none⟩ = (enc xs[i])[j]?
theorem RowA.below {α : Type} {enc : α → List Value} {size : Nat} {w w' : World} {p : Option Addr} {xs : List α} (h : RowA enc size w p xs) (hb : Below w.heap.size w w') : RowA enc size w' p xs := by
  intro hx
  obtain ⟨g, o, h1, h2, h3⟩ := h hx
  exact ⟨g, o, h1, Nat.lt_of_lt_of_le h2 hb.size, fun i hi j hj => (hb.cell (p := ⟨g, o + (i * size + j), none⟩) h2).trans (h3 i hi j hj)⟩
set_option maxRecDepth 100000 in
theorem sess_trod {H : Type} {enc : TypeId × Value → H} {W : World} {base : Nat} {sp : Nat → Bool} {held : Bool} {fuel : Nat} {c0 c1 c2 c3 : Value} {x : DataW H × List MemPlace}
    (hf : DataW.trod enc Tryz.prog W base sp held fuel 72 [c0, c1, c2, c3] = some x) : ∃ p : SeL, [c0, c1, c2, c3] = seC p ∧ p.wf := by
  obtain ⟨xs, m, _, hx, hl, hlen, hall⟩ := DataW.trod_struct Tryz.underlying72 hf
  match xs, hlen with
  | [y0, y1, y2, y3], _ =>
    have g0 := hall 0 _ rfl
    have g1 := hall 1 _ rfl
    have g2 := hall 2 _ rfl
    have g3 := hall 3 _ rfl
    simp [Value.cells, cellsStr9, cellsI649, cellsBo9] at g0 g1 g2 g3
    obtain ⟨d, e0, _, w0⟩ := DataW.trod_string Tryz.underlying9 g0
    obtain ⟨i, e1, _⟩ := DataW.trod_bool Tryz.underlying4 g1
    obtain ⟨s, e2, _, w2⟩ := DataW.trod_int Tryz.underlying2 g2
    obtain ⟨k, e3, _, w3⟩ := DataW.trod_string Tryz.underlying9 g3
    simp at e0 e1 e2 e3
    subst e0 e1 e2 e3
    exact ⟨⟨d, i, s, k⟩, rfl, w0, w2, w3⟩
def IncR (xs : List SeL) (n : Nat) : Prop := ∀ i (h : i < xs.length), 0 < i → i < n → ∀ h' : i - 1 < xs.length, Op.bytesLess xs[i - 1].r.toList xs[i].r.toList = true
open Classical in
noncomputable def incB (xs : List SeL) : Bool := decide (IncR xs xs.length)
theorem incB_true {xs : List SeL} (h : IncR xs xs.length) : incB xs = true := by unfold incB; simpa using h
theorem incB_false {xs : List SeL} (h : ¬ IncR xs xs.length) : incB xs = false := by unfold incB; simpa using h
theorem incB_iff {xs : List SeL} : incB xs = true ↔ IncR xs xs.length := by unfold incB; simp
theorem incR_zero (xs : List SeL) : IncR xs 1 := fun i _ h0 h1 => by omega
theorem incR_succ {xs : List SeL} {k : Nat} (h : IncR xs k) (hk : k < xs.length) (h1 : 0 < k → ∀ h' : k - 1 < xs.length, Op.bytesLess xs[k - 1].r.toList xs[k].r.toList = true) : IncR xs (k + 1) := by
  intro i hi h0 hlt h'
  by_cases e : i = k
  · subst e; exact h1 h0 h'
  · exact h i hi h0 (by omega) h'
theorem row_se4 {w : World} {p : Option Addr} {xs : List SeL} (h : RowC seC 4 w p xs) {i : Nat} (hi : i < xs.length) : ∃ g, p = some ⟨g, 0, none⟩ ∧ g < w.heap.size ∧ w.cell? ⟨g, i * 4, none⟩ = some (.string xs[i].r) ∧ w.cell? ⟨g, i * 4 + 1, none⟩ = some (.bool xs[i].o) ∧ w.cell? ⟨g, i * 4 + 2, none⟩ = some (.int .i64 xs[i].p) ∧ w.cell? ⟨g, i * 4 + 3, none⟩ = some (.string xs[i].s) := by
  obtain ⟨g, h1, h2, h3⟩ := h (List.ne_nil_of_length_pos (by omega))
  exact ⟨g, h1, h2, h3 i hi 0 (by decide), h3 i hi 1 (by decide), h3 i hi 2 (by decide), h3 i hi 3 (by decide)⟩

theorem sl_self : ∀ a : List UInt8, Op.bytesLess a a = false
  | [] => rfl
  | c :: a => by
    unfold Op.bytesLess
    rw [sl_self a]
    simp
theorem sl_trans : ∀ a b c : List UInt8, Op.bytesLess a b = true → Op.bytesLess b c = true → Op.bytesLess a c = true
  | _, [], [], h, h' => by cases h'
  | [], [], _ :: _, h, _ => by cases h
  | _ :: _, [], _, h, _ => by cases h
  | [], _ :: _, [], _, h' => by cases h'
  | [], _ :: _, _ :: _, _, _ => rfl
  | _ :: _, _ :: _, [], _, h' => by cases h'
  | a :: x, b :: y, c :: z, h, h' => by
    have ih := sl_trans x y z
    unfold Op.bytesLess at h h' ⊢
    simp only [Bool.or_eq_true, decide_eq_true_eq, Bool.and_eq_true, beq_iff_eq] at h h' ⊢
    rcases h with h | ⟨rfl, h⟩
    · rcases h' with h' | ⟨rfl, h'⟩
      · exact .inl (UInt8.lt_trans h h')
      · exact .inl h
    · rcases h' with h' | ⟨rfl, h'⟩
      · exact .inl h'
      · exact .inr ⟨rfl, ih h h'⟩
/-- How many resources are less than r, from the first on. -/
def posS (r : ByteArray) : List SeL → Nat
  | [] => 0
  | x :: t => if Op.bytesLess x.r.toList r.toList then posS r t + 1 else 0
theorem pos_lo {r : ByteArray} : ∀ {xs : List SeL} {i : Nat} (hi : i < xs.length), i < posS r xs → Op.bytesLess xs[i].r.toList r.toList = true
  | x :: t, 0, _, h => by
    unfold posS at h
    split at h
    · assumption
    · exact absurd h (Nat.not_lt_zero _)
  | x :: t, i + 1, hi, h => by
    unfold posS at h
    split at h
    · exact pos_lo (xs := t) (by simpa using hi) (by omega)
    · exact absurd h (Nat.not_lt_zero _)
theorem pos_at {r : ByteArray} : ∀ {xs : List SeL} (h : posS r xs < xs.length), Op.bytesLess xs[posS r xs].r.toList r.toList = false
  | x :: t, h => by
    by_cases hx : Op.bytesLess x.r.toList r.toList = true
    · have e : posS r (x :: t) = posS r t + 1 := by show (if _ then _ else _) = _; rw [if_pos hx]
      have h' : posS r t < t.length := by rw [e] at h; simpa using h
      have := pos_at (xs := t) h'
      simp only [e, List.getElem_cons_succ]
      exact this
    · have e : posS r (x :: t) = 0 := by show (if _ then _ else _) = _; rw [if_neg hx]
      simp only [e, List.getElem_cons_zero]
      exact Bool.eq_false_iff.2 hx
theorem inc_all {xs : List SeL} (h : IncR xs xs.length) : ∀ (j i : Nat) (hj : j < xs.length) (hij : i < j), Op.bytesLess (xs[i]'(by omega)).r.toList xs[j].r.toList = true
  | 0, i, _, hij => absurd hij (Nat.not_lt_zero _)
  | j + 1, i, hj, hij => by
    have h1 := h (j + 1) hj (by omega) hj (by show j < xs.length; omega)
    simp only [Nat.add_sub_cancel] at h1
    by_cases e : i = j
    · subst e; exact h1
    · exact sl_trans _ _ _ (inc_all h j i (by omega) (by omega)) h1
/-- Is there a session of this resource? -/
def hereB (r : ByteArray) (xs : List SeL) : Bool := match xs[posS r xs]? with
  | some x => x.r.toList == r.toList
  | none => false
theorem here_at {r : ByteArray} {xs : List SeL} (hp : posS r xs < xs.length) : hereB r xs = (xs[posS r xs].r.toList == r.toList) := by
  unfold hereB
  rw [List.getElem?_eq_getElem hp]
theorem here_end {r : ByteArray} {xs : List SeL} (hp : ¬ posS r xs < xs.length) : hereB r xs = false := by
  unfold hereB
  rw [List.getElem?_eq_none (by omega)]
/-- The only session of its resource is the one there. -/
theorem here_only {r : ByteArray} {xs : List SeL} (h : IncR xs xs.length) {i : Nat} (hi : i < xs.length) (he : xs[i].r.toList = r.toList) : i = posS r xs ∧ hereB r xs = true := by
  have h1 : posS r xs ≤ i := by
    rcases Nat.lt_or_ge i (posS r xs) with hl | hg
    · have := pos_lo hi hl
      rw [he, sl_self] at this
      cases this
    · exact hg
  have h2 : i = posS r xs := by
    rcases Nat.lt_or_ge (posS r xs) i with hl | hg
    · have hp : posS r xs < xs.length := by omega
      have := inc_all h i (posS r xs) hi hl
      rw [he, pos_at hp] at this
      cases this
    · omega
  refine ⟨h2, ?_⟩
  subst h2
  rw [here_at hi, he]
  exact beq_self_eq_true _
end Go.Proofs.YtpjmcpfmnlfmdaaGreat

namespace Go.Proofs.YtpjmcpfmnlfmdaaGreat
set_option linter.unusedSimpArgs false
set_option linter.unusedVariables false
open Go.ChangeShapes Go.WideShapes Go.ChangeAt Go.RowKit Go.Joins

/-- A slice of sessions among the arguments. -/
def SsArg (W : World) (a : Option Addr) (len : Nat) (ps : List SeL) : Prop := ps.length = len ∧ len ≤ maxLen ∧ (∀ p ∈ ps, p.wf) ∧ RowA seC 4 W a ps
theorem SsArg.below {W W2 : World} {a : Option Addr} {len : Nat} {ps : List SeL} (h : SsArg W a len ps) (hb : Below W.heap.size W W2) : SsArg W2 a len ps := ⟨h.1, h.2.1, h.2.2.1, h.2.2.2.below hb⟩
theorem addr_plainS {w : World} {x : Addr} {v : Value} (h : w.cell? x = some v) : x = ⟨x.block, x.off, none⟩ := by
  obtain ⟨b, off, sp⟩ := x
  cases sp with
  | none => rfl
  | some s =>
    simp [World.cell?] at h
    split at h <;> cases h
theorem mapM_fourS {f : Nat → Option Value} {cs : List Value} (h : (List.range 4).mapM f = some cs) : ∃ c0 c1 c2 c3, cs = [c0, c1, c2, c3] ∧ f 0 = some c0 ∧ f 1 = some c1 ∧ f 2 = some c2 ∧ f 3 = some c3 := by
  rw [show List.range 4 = [0, 1, 2, 3] from rfl] at h
  simp only [List.mapM_cons, List.mapM_nil, Option.bind_eq_bind, Option.pure_def] at h
  cases h0 : f 0 with
  | none => rw [h0] at h; simp at h
  | some c0 =>
    cases h1 : f 1 with
    | none => rw [h0, h1] at h; simp at h
    | some c1 =>
      cases h2 : f 2 with
      | none => rw [h0, h1, h2] at h; simp at h
      | some c2 =>
        cases h3 : f 3 with
        | none => rw [h0, h1, h2, h3] at h; simp at h
        | some c3 =>
          rw [h0, h1, h2, h3] at h
          simp at h
          exact ⟨c0, c1, c2, c3, h.symm, rfl, rfl, rfl, rfl⟩
theorem cells_fourS {W : World} {base : Nat} {a : Addr} {cs : List Value} (h : W.cells? base a 4 = some cs) : ∃ c0 c1 c2 c3, cs = [c0, c1, c2, c3] ∧ W.cell? (a.add 0) = some c0 ∧ W.cell? (a.add 1) = some c1 ∧ W.cell? (a.add 2) = some c2 ∧ W.cell? (a.add 3) = some c3 := by
  unfold World.cells? at h
  split at h
  · exact mapM_fourS h
  · cases h
set_option maxRecDepth 100000 in
theorem sesss_trod {H : Type} {enc : TypeId × Value → H} {W : World} {base : Nat} {sp : Nat → Bool} {held : Bool} {fuel : Nat} {c : Value} {x : DataW H × List MemPlace}
    (hf : DataW.trod enc Tryz.prog W base sp held fuel 22 [c] = some x) : ∃ a len cap ps, c = .slice a len cap ∧ SsArg W a len ps := by
  rcases Deep.open_slice Tryz.underlying22 hf with ⟨hcs, _⟩ | ⟨a, len, cap, m, n, D, Pl, hcs, hb, hl, hm, hmm, hx, hall⟩
  · injection hcs with h1
    exact ⟨none, 0, 0, [], h1, rfl, Nat.zero_le _, fun p hp => (by cases hp), fun h => absurd rfl h⟩
  · injection hcs with h1
    have hlm : len ≤ m := by rw [hmm]; split <;> omega
    have each : ∀ i, i < len → ∃ p : SeL, p.wf ∧ ∀ j, j < 4 → W.cell? ((a.add (i * 4)).add j) = (seC p)[j]? := by
      intro i hi
      obtain ⟨cs', hc, ht⟩ := hall i (by omega)
      rw [cellsSe] at hc
      obtain ⟨c0, c1, c2, c3, rfl, e0, e1, e2, e3⟩ := cells_fourS hc
      obtain ⟨p, hp, hw⟩ := sess_trod ht
      refine ⟨p, hw, fun j hj => ?_⟩
      rw [← hp]
      match j, hj with
      | 0, _ => exact e0
      | 1, _ => exact e1
      | 2, _ => exact e2
      | 3, _ => exact e3
    obtain ⟨P, hP⟩ := Deep.choose_lt each
    refine ⟨some a, len, cap, (List.range len).map P, h1, by simp, by omega, fun p hp => ?_, fun hne => ?_⟩
    · obtain ⟨i, hi, rfl⟩ := List.mem_map.1 hp
      exact (hP i (List.mem_range.1 hi)).1
    · have h0 : 0 < len := by
        rcases Nat.eq_zero_or_pos len with h | h
        · subst h; exact absurd rfl hne
        · exact h
      have hc0 := (hP 0 h0).2 0 (by decide)
      simp only [Nat.zero_mul] at hc0
      have ha : W.cell? a = some (.string (P 0).r) := hc0
      have hap := addr_plainS ha
      refine ⟨a.block, a.off, by rw [← hap], ?_, fun i hi j hj => ?_⟩
      · exact block_lt_of_cell ha
      · have hi' : i < len := by simpa using hi
        have h2 := (hP i hi').2 j hj
        rw [Deep.add_add, hap] at h2
        simp only [List.getElem_map, List.getElem_range]
        rw [← h2]
        congr 1
        unfold Addr.add
        split
        · rename_i h3; rw [h3]; rfl
        · rfl
set_option maxRecDepth 100000 in
theorem sesss_open {H : Type} {enc : TypeId × Value → H} {W : World} {base : Nat} {sp : Nat → Bool} {held : Bool} {a : Option Addr} {len cap : Nat} {D : DataW H} {p : List MemPlace}
    (h : DataW.Trod enc Tryz.prog W base sp held 22 (.slice a len cap) D p) : ∃ ps, SsArg W a len ps := by
  obtain ⟨fuel, hf⟩ := h
  have hf' : DataW.trod enc Tryz.prog W base sp held fuel 22 [.slice a len cap] = some (D, p) := hf
  obtain ⟨a2, len2, cap2, ps, e, hp⟩ := sesss_trod hf'
  injection e with e1 e2 e3
  subst e1 e2 e3
  exact ⟨ps, hp⟩
end Go.Proofs.YtpjmcpfmnlfmdaaGreat

namespace Go.Proofs.YtpjmcpfmnlfmdaaGreat
set_option linter.unusedSimpArgs false
set_option linter.unusedVariables false
open Go.RowKit

/-- The shows. -/
def showB (t : ByteArray) : Bool := [[], [97, 119, 97, 121], [99, 104, 97, 116], [100, 110, 100], [120, 97]].contains t.toList
def resB (t : ByteArray) : Bool := decide (0 < t.size) && partB resC t
/-- A valid session. -/
def seB (x : SeL) : Bool := (x.o || (decide (x.p = 0) && decide (x.s.size = 0))) && resB x.r && (decide (-128 ≤ x.p) && decide (x.p ≤ 127)) && showB x.s
def AllR (xs : List SeL) (n : Nat) : Prop := ∀ i (h : i < xs.length), i < n → seB xs[i] = true
/-- Valid sessions. -/
def SeOk (xs : List SeL) : Prop := xs.length ≤ 5 ∧ IncR xs xs.length ∧ AllR xs xs.length
open Classical in
noncomputable def okB (xs : List SeL) : Bool := decide (SeOk xs)
theorem okB_true {xs : List SeL} (h : SeOk xs) : okB xs = true := by unfold okB; simpa using h
theorem okB_false {xs : List SeL} (h : ¬ SeOk xs) : okB xs = false := by unfold okB; simpa using h
theorem okB_iff {xs : List SeL} : okB xs = true ↔ SeOk xs := by unfold okB; simp
theorem allR_zero (xs : List SeL) : AllR xs 0 := fun i _ h => absurd h (Nat.not_lt_zero _)
theorem allR_succ {xs : List SeL} {k : Nat} (h : AllR xs k) (hk : k < xs.length) (h1 : seB xs[k] = true) : AllR xs (k + 1) := by
  intro i hi hlt
  by_cases e : i = k
  · subst e; exact h1
  · exact h i hi (by omega)
/-- An answer: sessions, code. -/
structure SoL where
  l : List SeL
  c : Int
end Go.Proofs.YtpjmcpfmnlfmdaaGreat

namespace Go.Proofs.YtpjmcpfmnlfmdaaGreat
set_option linter.unusedSimpArgs false
set_option linter.unusedVariables false
open Go.RowKit

theorem nan_str (s : ByteArray) (w : World) : Calls Tryz.prog 128 #[.string s] w fun e w' => e = .returned (.bool false) ∧ w = w' := by
  go_enter Tryz.func128, Tryz.ntmps128
  go_wp2
  go_ret
  exact ⟨ret_bool (by simp), rfl⟩
/-- What comparing two texts answers. -/
def cmpI (a b : ByteArray) : Int := if Op.bytesLess a.toList b.toList then -1 else if a.toList == b.toList then 0 else 1
theorem cmp_str (a b : ByteArray) (w : World) : Calls Tryz.prog 120 #[.string a, .string b] w fun e w' => e = .returned (.int .i64 (cmpI a b)) ∧ w = w' := by
  obtain ⟨b1, h1⟩ : ∃ b1, Op.bytesLess a.toList b.toList = b1 := ⟨_, rfl⟩
  obtain ⟨b2, h2⟩ : ∃ b2, (a.toList == b.toList) = b2 := ⟨_, rfl⟩
  unfold cmpI
  rw [h1, h2]
  have H1 := h1
  have H2 := h2
  cases b1 <;> cases b2 <;>
    (go_enter Tryz.func120, Tryz.ntmps120
     go_wp2_with (go_at_call 128; go_fit (nan_str _ _); rintro e w' ⟨rfl, rfl⟩)
     go_ret
     exact ⟨rfl, rfl⟩)
set_option maxHeartbeats 1000000 in
theorem cmp_res (x y : SeL) (w : World) : Calls Tryz.prog 104 #[seV x, seV y] w fun e w' => e = .returned (.int .i64 (cmpI x.r y.r)) ∧ Below w.heap.size w w' := by
  unfold seV
  obtain ⟨z, hz⟩ : ∃ z, cmpI x.r y.r = z := ⟨_, rfl⟩
  have i1 := fun W => cmp_str x.r y.r W
  rw [hz] at i1 ⊢
  go_enter Tryz.func104, Tryz.ntmps104
  go_wp2_with (go_at_call 120; go_fit (i1 _); rintro e w' ⟨rfl, rfl⟩)
  go_ret
  exact ⟨rfl, ((Below.refl _ _).alloc (Nat.le_refl _) _).alloc (by simp) _⟩
theorem cmp_neg {a b : ByteArray} : (cmpI a b < 0) ↔ Op.bytesLess a.toList b.toList = true := by
  unfold cmpI
  cases Op.bytesLess a.toList b.toList <;> cases a.toList == b.toList <;> simp
/-- Two neighbours of a row. -/
abbrev Two_se (g k : Nat) (x y : SeL) (wr W : World) : Prop := (((W.cell? ⟨g, k * 4, none⟩ = some (.string x.r) ∧ W.cell? ⟨g, k * 4 + 1, none⟩ = some (.bool x.o) ∧ W.cell? ⟨g, k * 4 + 2, none⟩ = some (.int .i64 x.p) ∧ W.cell? ⟨g, k * 4 + 3, none⟩ = some (.string x.s)) ∧
  (W.cell? ⟨g, (k + 1) * 4, none⟩ = some (.string y.r) ∧ W.cell? ⟨g, (k + 1) * 4 + 1, none⟩ = some (.bool y.o) ∧ W.cell? ⟨g, (k + 1) * 4 + 2, none⟩ = some (.int .i64 y.p) ∧ W.cell? ⟨g, (k + 1) * 4 + 3, none⟩ = some (.string y.s))) ∧ (Below wr.heap.size wr W ∧ g < wr.heap.size))
theorem two_se_on {g k : Nat} {x y : SeL} {wr W W2 : World} (h : Two_se g k x y wr W) (hb : Below W.heap.size W W2) : Two_se g k x y wr W2 := by
  obtain ⟨⟨⟨c0, c1, c2, c3⟩, d0, d1, d2, d3⟩, h1, h2⟩ := h
  have ha : g < W.heap.size := Nat.lt_of_lt_of_le h2 h1.size
  exact ⟨⟨⟨(hb.cell (p := ⟨g, k * 4, none⟩) ha).trans c0, (hb.cell (p := ⟨g, k * 4 + 1, none⟩) ha).trans c1, (hb.cell (p := ⟨g, k * 4 + 2, none⟩) ha).trans c2, (hb.cell (p := ⟨g, k * 4 + 3, none⟩) ha).trans c3⟩,
    (hb.cell (p := ⟨g, (k + 1) * 4, none⟩) ha).trans d0, (hb.cell (p := ⟨g, (k + 1) * 4 + 1, none⟩) ha).trans d1, (hb.cell (p := ⟨g, (k + 1) * 4 + 2, none⟩) ha).trans d2, (hb.cell (p := ⟨g, (k + 1) * 4 + 3, none⟩) ha).trans d3⟩, h1.trans (hb.mono h1.size), h2⟩
theorem two_se_drew {g k : Nat} {x y : SeL} {wr W : World} (h : Two_se g k x y wr W) : Two_se g k x y wr W.drew := two_se_on h (Below.refl _ _).drew
set_option maxRecDepth 100000 in
set_option maxHeartbeats 2000000 in
theorem impl_inc (xs : List SeL) (p : Option Addr) (c : Nat) (w : World) (hn : xs.length ≤ 1048576) (hR : RowC seC 4 w p xs) :
    Calls Tryz.prog 103 #[.slice p xs.length c, .func (.func 104) #[] #[]] w fun e w' => e = .returned (.bool (incB xs)) ∧ Below w.heap.size w w' := by
  obtain ⟨n, hxn⟩ : ∃ n, xs.length = n := ⟨_, rfl⟩
  have HP := Lib.hid (fun W (h : Below w.heap.size w W) => hR.on h)
  have HN := Lib.hid hxn
  obtain ⟨Z, hZ⟩ : ∃ Z, incB xs = Z := ⟨_, rfl⟩
  have HZ := Lib.hid hZ
  rw [hxn] at hn ⊢
  rw [hZ]
  clear hR hxn hZ
  go_enter Tryz.func103, Tryz.ntmps103
  go_wp2
  go_loopw [5] (fun iq wr => ∃ k : Nat, (k + 1 ≤ n ∨ k = 0) ∧ iq = .int .i64 ((k : Int) + 1) ∧ IncR xs (k + 1) ∧ Below w.heap.size w wr) (fun i _ => n + 1 - (intOf i).toNat)
  case atStart => exact ⟨0, .inr rfl, rfl, incR_zero xs, Below.refl _ _⟩
  case round =>
    obtain ⟨k, hk, rfl, hI, hb⟩ := hrel
    have HI := Lib.hid hI
    have HB := Lib.hid hb
    clear hI
    have hk2 : (k : Int) ≤ 1048576 := by omega
    by_cases hlt : k + 1 < n
    · have hlt1 : k < xs.length := by rw [HN.out]; omega
      have hlt2 : k + 1 < xs.length := by rw [HN.out]; exact hlt
      obtain ⟨g, rfl, hg, a0, a1, a2, a3⟩ := row_se4 (HP.out _ hb) hlt1
      obtain ⟨g', he, hg', b0, b1, b2, b3⟩ := row_se4 (HP.out _ hb) hlt2
      injection he with he
      injection he with he
      subst he
      obtain ⟨x, hx⟩ : ∃ x, xs[k] = x := ⟨_, rfl⟩
      obtain ⟨y, hy⟩ : ∃ y, xs[k + 1] = y := ⟨_, rfl⟩
      have HX := Lib.hid hx
      have HY := Lib.hid hy
      rw [hx] at a0 a1 a2 a3
      rw [hy] at b0 b1 b2 b3
      have HS : Hid (Two_se g k x y wr wr) := Lib.hid ⟨⟨⟨a0, a1, a2, a3⟩, b0, b1, b2, b3⟩, Below.refl _ _, hg⟩
      have i1 := fun W => cmp_res x y W
      unfold seV at i1
      obtain ⟨z, hz⟩ : ∃ z, cmpI x.r y.r = z := ⟨_, rfl⟩
      have HC := Lib.hid hz
      rw [hz] at i1
      clear hb a0 a1 a2 a3 b0 b1 b2 b3 hx hy hg hg' hz
      have hw1 : IntKind.i64.wrap ((k : Int) + 1 - 1) = (k : Int) := by rw [IntWalk.i64_in _ (by omega)]; omega
      have hw2 : IntKind.i64.wrap (k : Int) = (k : Int) := IntWalk.i64_in _ (by omega)
      have q1 : (0 : Int) ≤ (k : Int) := by omega
      have q2 : (k : Int) < (n : Int) := by omega
      have q3 : (0 : Int) ≤ (k : Int) + 1 := by omega
      have q4 : (k : Int) + 1 < (n : Int) := by omega
      go_wp2
      go_region_held3 (fun W => (((W.cell? ⟨g, k * 4, none⟩ = some (.string x.r) ∧ W.cell? ⟨g, k * 4 + 1, none⟩ = some (.bool x.o) ∧ W.cell? ⟨g, k * 4 + 2, none⟩ = some (.int .i64 x.p) ∧ W.cell? ⟨g, k * 4 + 3, none⟩ = some (.string x.s)) ∧
        (W.cell? ⟨g, (k + 1) * 4, none⟩ = some (.string y.r) ∧ W.cell? ⟨g, (k + 1) * 4 + 1, none⟩ = some (.bool y.o) ∧ W.cell? ⟨g, (k + 1) * 4 + 2, none⟩ = some (.int .i64 y.p) ∧ W.cell? ⟨g, (k + 1) * 4 + 3, none⟩ = some (.string y.s))) ∧ (Below wr.heap.size wr W ∧ g < wr.heap.size)))
        (with_reducible first | assumption | exact two_se_drew HS.out | exact two_se_on (by assumption) hbN)
        (first | (go_at_call 104; go_fit (i1 _); rintro e wn ⟨rfl, hbN⟩; have HF := Lib.hid (two_se_on (g := g) (k := k) (wr := wr) (by assumption) hbN)))
      have HB2 := Lib.hid (HB.out.trans (HF.out.2.1.mono HB.out.size))
      by_cases hneg : z < 0
      · have hn0 : ¬ (0 : Int) ≤ z := by omega
        have hl := cmp_neg.1 (show cmpI x.r y.r < 0 by rw [HC.out]; exact hneg)
        have HL := Lib.hid hl
        clear hl
        go_wp2
        go_roundw
        case rel => exact ⟨k + 1, .inl (by omega), by go_num, incR_succ HI.out hlt2 (fun _ h' => by
          simp only [Nat.add_sub_cancel]
          rw [HX.out, HY.out]
          exact HL.out), HB2.out⟩
        case measure => simp [intOf]; omega
      · have hn0 : (0 : Int) ≤ z := by omega
        have HN0 := Lib.hid hneg
        clear hneg
        have HL : Hid (Z = false) := Lib.hid (by
          rw [← HZ.out]
          refine incB_false (fun h => HN0.out ?_)
          rw [← HC.out]
          have := h (k + 1) hlt2 (by omega) hlt2 hlt1
          simp only [Nat.add_sub_cancel] at this
          rw [HX.out, HY.out] at this
          exact cmp_neg.2 this)
        go_wp2
        go_ret
        exact ⟨ret_bool HL.out.symm, HB2.out⟩
    · have HL : Hid (Z = true) := Lib.hid (by
        rw [← HZ.out]
        refine incB_true (fun i hi h0 h1 h' => HI.out i hi h0 ?_ h')
        rw [HN.out] at hi
        omega)
      clear hb
      go_wp2
      go_ret
      exact ⟨ret_bool HL.out.symm, HB.out⟩
end Go.Proofs.YtpjmcpfmnlfmdaaGreat

namespace Go.Proofs.YtpjmcpfmnlfmdaaGreat
set_option linter.unusedSimpArgs false
set_option linter.unusedVariables false
open Go.RowKit

theorem ba_ext {s : ByteArray} {l : List UInt8} (h : s.toList = l) : s = ⟨l.toArray⟩ := by
  rw [ByteArray.toList_eq] at h
  obtain ⟨⟨d⟩⟩ := s
  have h' : d = l := h
  rw [h']
theorem empty_size {s : ByteArray} : (s.toList = [] ↔ s.size = 0) := by
  constructor
  · intro h
    rw [ba_ext h]
    rfl
  · intro h
    have : s = ByteArray.empty := size_zero h
    rw [this, ByteArray.toList_eq]
    rfl
theorem isEmpty_size (s : ByteArray) : s.toList.isEmpty = decide (s.size = 0) := by
  by_cases h : s.size = 0
  · rw [empty_size.2 h, decide_eq_true h]; rfl
  · rw [decide_eq_false h]
    cases e : s.toList with
    | nil => exact absurd (empty_size.1 e) h
    | cons a l => rfl
set_option maxHeartbeats 1000000 in
theorem impl_res9 (t : ByteArray) (w : World) (ht : t.size ≤ maxLen) : Calls Tryz.prog 121 #[.string t] w (SaysB (resB t) w) := by
  have i1 := fun w => impl_part_res t w ht
  obtain ⟨b, hb⟩ : ∃ b, partB resC t = b := ⟨_, rfl⟩
  rw [hb] at i1
  unfold resB
  rw [hb]
  by_cases h0 : t.size = 0
  · rw [decide_eq_false (show ¬ 0 < t.size by omega)]
    obtain rfl := size_zero h0
    go_enter Tryz.func121, Tryz.ntmps121
    go_wp2
    go_ret
    exact ⟨ret_bool (by simp), rfl⟩
  · rw [decide_eq_true (show 0 < t.size by omega)]
    have h1 : t.toList ≠ [] := fun e => h0 (empty_size.1 e)
    have h2 : t.toList.isEmpty = false := by rw [isEmpty_size, decide_eq_false h0]
    go_enter Tryz.func121, Tryz.ntmps121
    go_wp2_with (go_at_call 99; go_fit (i1 _); rintro e w' ⟨rfl, rfl⟩)
    go_ret
    exact ⟨ret_bool (by simp), rfl⟩
set_option maxHeartbeats 1000000 in
theorem spec_res9 (t : ByteArray) (w : World) (ht : t.size ≤ maxLen) : Calls Tryz.prog 96 #[.string t] w (SaysB (resB t) w) := by
  have i1 := fun w => spec_resource t w ht
  obtain ⟨b, hb⟩ : ∃ b, partB resC t = b := ⟨_, rfl⟩
  rw [hb] at i1
  unfold resB
  rw [hb]
  by_cases h0 : t.size = 0
  · rw [decide_eq_false (show ¬ 0 < t.size by omega)]
    obtain rfl := size_zero h0
    go_enter Tryz.func96, Tryz.ntmps96
    go_wp2
    go_ret
    exact ⟨ret_bool (by simp), rfl⟩
  · rw [decide_eq_true (show 0 < t.size by omega)]
    have h1 : t.toList ≠ [] := fun e => h0 (empty_size.1 e)
    have h2 : t.toList.isEmpty = false := by rw [isEmpty_size, decide_eq_false h0]
    go_enter Tryz.func96, Tryz.ntmps96
    go_wp2_with (go_at_call 114; go_fit (i1 _); rintro e w' ⟨rfl, rfl⟩)
    go_ret
    exact ⟨ret_bool (by simp), rfl⟩
theorem show_cases (t : ByteArray) : t = ⟨#[]⟩ ∨ t = ⟨#[97, 119, 97, 121]⟩ ∨ t = ⟨#[99, 104, 97, 116]⟩ ∨ t = ⟨#[100, 110, 100]⟩ ∨ t = ⟨#[120, 97]⟩ ∨
    (t.toList ≠ [] ∧ (t.toList == [97, 119, 97, 121]) = false ∧ (t.toList == [99, 104, 97, 116]) = false ∧ (t.toList == [100, 110, 100]) = false ∧ (t.toList == [120, 97]) = false) := by
  by_cases h0 : t.toList = []
  · exact .inl (ba_ext h0)
  by_cases h1 : t.toList = [97, 119, 97, 121]
  · exact .inr (.inl (ba_ext h1))
  by_cases h2 : t.toList = [99, 104, 97, 116]
  · exact .inr (.inr (.inl (ba_ext h2)))
  by_cases h3 : t.toList = [100, 110, 100]
  · exact .inr (.inr (.inr (.inl (ba_ext h3))))
  by_cases h4 : t.toList = [120, 97]
  · exact .inr (.inr (.inr (.inr (.inl (ba_ext h4)))))
  exact .inr (.inr (.inr (.inr (.inr ⟨h0, beq_eq_false_iff_ne.2 h1, beq_eq_false_iff_ne.2 h2, beq_eq_false_iff_ne.2 h3, beq_eq_false_iff_ne.2 h4⟩))))
theorem show_no {t : ByteArray} (h0 : t.toList ≠ []) (h1 : (t.toList == [97, 119, 97, 121]) = false) (h2 : (t.toList == [99, 104, 97, 116]) = false) (h3 : (t.toList == [100, 110, 100]) = false) (h4 : (t.toList == [120, 97]) = false) : showB t = false := by
  unfold showB
  rw [beq_eq_false_iff_ne] at h1 h2 h3 h4
  simp [h0, h1, h2, h3, h4]
set_option maxHeartbeats 2000000 in
theorem impl_show9 (t : ByteArray) (w : World) : Calls Tryz.prog 122 #[.string t] w (SaysB (showB t) w) := by
  rcases show_cases t with rfl | rfl | rfl | rfl | rfl | ⟨h0, h1, h2, h3, h4⟩
  iterate 5
    · go_enter Tryz.func122, Tryz.ntmps122
      go_wp2
      go_ret
      exact ⟨ret_bool (by unfold showB; rw [ByteArray.toList_eq]; decide), rfl⟩
  · have h5 : t.toList.isEmpty = false := by rw [isEmpty_size, decide_eq_false (fun e => h0 (empty_size.2 e))]
    rw [show_no h0 h1 h2 h3 h4]
    go_enter Tryz.func122, Tryz.ntmps122
    go_wp2
    go_ret
    exact ⟨rfl, rfl⟩
theorem show_any (t : ByteArray) : ([⟨#[]⟩, ⟨#[97, 119, 97, 121]⟩, ⟨#[99, 104, 97, 116]⟩, ⟨#[100, 110, 100]⟩, ⟨#[120, 97]⟩].any fun x : ByteArray => x.toList == t.toList) = showB t := by
  rcases show_cases t with rfl | rfl | rfl | rfl | rfl | ⟨h0, h1, h2, h3, h4⟩
  iterate 5 · (unfold showB; simp only [ByteArray.toList_eq]; decide)
  rw [show_no h0 h1 h2 h3 h4, List.any_eq_false]
  intro x hx
  rw [beq_eq_false_iff_ne] at h1 h2 h3 h4
  simp only [List.mem_cons, List.not_mem_nil, or_false] at hx
  rw [beq_iff_eq]
  intro e
  rcases hx with rfl | rfl | rfl | rfl | rfl <;> rw [ByteArray.toList_eq] at e
  · exact h0 e.symm
  · exact h1 e.symm
  · exact h2 e.symm
  · exact h3 e.symm
  · exact h4 e.symm
set_option maxRecDepth 100000 in
set_option maxHeartbeats 1000000 in
theorem spec_in9 (b c : Nat) (ks : List ByteArray) (k : ByteArray) (w : World) (hlen : ks.length ≤ 1000) (hc : ∀ j (h : j < ks.length), w.cell? ⟨b, j, none⟩ = some (.string ks[j])) :
    Calls Tryz.prog 72 #[.slice (some ⟨b, 0, none⟩) ks.length c, .string k] w (SaysB (ks.any fun x => x.toList == k.toList) w) := by
  have HC := Lib.hid hc
  clear hc
  go_enter Tryz.func72, Tryz.ntmps72
  go_wp2
  go_loop [5] (fun i => ∃ j : Nat, j ≤ ks.length ∧ i = .int .i64 j ∧ ∀ m (h : m < ks.length), m < j → (ks[m].toList == k.toList) = false) (fun i => ks.length - (intOf i).toNat)
  case atStart => exact ⟨0, Nat.zero_le _, rfl, fun _ _ h => absurd h (Nat.not_lt_zero _)⟩
  case round =>
    obtain ⟨j, hj, rfl, hno⟩ := hrel
    have HN := Lib.hid hno
    clear hno
    by_cases hlt : j < ks.length
    · have hcell := HC.out j hlt
      obtain ⟨x, hx⟩ : ∃ x, x = ks[j] := ⟨_, rfl⟩
      rw [← hx] at hcell
      obtain ⟨b1, h1⟩ : ∃ b, (x.toList == k.toList) = b := ⟨_, rfl⟩
      have HX := Lib.hid hx
      clear hx
      cases b1
      · go_wp2
        refine ⟨⟨j + 1, hlt, rfl, fun m hm h => ?_⟩, by simp [intOf]; omega⟩
        by_cases e : m < j
        · exact HN.out m hm e
        · obtain rfl : m = j := by omega
          rw [← HX.out]
          exact h1
      · have HA : Hid ((ks.any fun x => x.toList == k.toList) = true) := Lib.hid (List.any_eq_true.2 ⟨x, by rw [HX.out]; exact List.getElem_mem hlt, h1⟩)
        go_wp2
        go_ret
        exact ⟨ret_bool HA.out.symm, rfl⟩
    · have HA : Hid ((ks.any fun x => x.toList == k.toList) = false) := Lib.hid (by
        rw [List.any_eq_false]
        intro x hx
        obtain ⟨m, hm, rfl⟩ := List.mem_iff_getElem.1 hx
        rw [HN.out m hm (by omega)]
        decide)
      go_wp2
      go_ret
      exact ⟨ret_bool HA.out.symm, rfl⟩
set_option maxRecDepth 100000 in
set_option maxHeartbeats 1000000 in
theorem spec_show9 (t : ByteArray) (w : World) : Calls Tryz.prog 97 #[.string t] w fun e w' => e = .returned (.bool (showB t)) ∧ Below w.heap.size w w' := by
  have i1 := fun W hc => spec_in9 w.heap.size 5 [⟨#[]⟩, ⟨#[97, 119, 97, 121]⟩, ⟨#[99, 104, 97, 116]⟩, ⟨#[100, 110, 100]⟩, ⟨#[120, 97]⟩] t W (by decide) hc
  rw [show_any] at i1
  have hA := Arr.fresh w 9 [.string ⟨#[]⟩, .string ⟨#[97, 119, 97, 121]⟩, .string ⟨#[99, 104, 97, 116]⟩, .string ⟨#[100, 110, 100]⟩, .string ⟨#[120, 97]⟩]
  have HC : Hid (∀ j (h : j < [(⟨#[]⟩ : ByteArray), ⟨#[97, 119, 97, 121]⟩, ⟨#[99, 104, 97, 116]⟩, ⟨#[100, 110, 100]⟩, ⟨#[120, 97]⟩].length), (w.alloc (.cells #[.string ⟨#[]⟩, .string ⟨#[97, 119, 97, 121]⟩, .string ⟨#[99, 104, 97, 116]⟩, .string ⟨#[100, 110, 100]⟩, .string ⟨#[120, 97]⟩] 9)).cell? ⟨w.heap.size, j, none⟩ = some (.string [(⟨#[]⟩ : ByteArray), ⟨#[97, 119, 97, 121]⟩, ⟨#[99, 104, 97, 116]⟩, ⟨#[100, 110, 100]⟩, ⟨#[120, 97]⟩][j])) := Lib.hid (by
    intro j hj
    match j, hj with
    | 0, _ => exact hA.cell 0
    | 1, _ => exact hA.cell 1
    | 2, _ => exact hA.cell 2
    | 3, _ => exact hA.cell 3
    | 4, _ => exact hA.cell 4)
  clear hA
  go_enter Tryz.func97, Tryz.ntmps97
  go_wp2_with (go_at_call 72; go_fit (i1 _ HC.out); rintro e w' ⟨rfl, rfl⟩)
  go_ret
  exact ⟨rfl, (Below.refl _ _).alloc (Nat.le_refl _) _⟩
theorem spec_is9 (z lo hi : Int) (w : World) : Calls Tryz.prog 75 #[.int .i64 z, .int .i64 lo, .int .i64 hi] w (SaysB (decide (lo ≤ z) && decide (z ≤ hi)) w) := by
  have hd : z < lo ∨ lo ≤ z ∧ z ≤ hi ∨ lo ≤ z ∧ hi < z := by omega
  rcases hd with h | ⟨h, h'⟩ | ⟨h, h'⟩
  · rw [show decide (lo ≤ z) = false by simp; omega]
    go_enter Tryz.func75, Tryz.ntmps75
    go_wp2
    go_ret
    exact ⟨ret_bool (by first | (simp; done) | (simp; omega)), rfl⟩
  · rw [show decide (lo ≤ z) = true by simpa using h, show decide (z ≤ hi) = true by simpa using h']
    go_enter Tryz.func75, Tryz.ntmps75
    go_wp2
    go_ret
    exact ⟨ret_bool (by first | (simp; done) | (simp; omega)), rfl⟩
  · rw [show decide (z ≤ hi) = false by simp; omega, Bool.and_false]
    go_enter Tryz.func75, Tryz.ntmps75
    go_wp2
    go_ret
    exact ⟨ret_bool (by first | (simp; done) | (simp; omega)), rfl⟩
end Go.Proofs.YtpjmcpfmnlfmdaaGreat

namespace Go.Proofs.YtpjmcpfmnlfmdaaGreat
set_option linter.unusedSimpArgs false
set_option linter.unusedVariables false
open Go.RowKit

theorem nonempty_facts {s : ByteArray} (h : ¬ s.size = 0) : s.toList ≠ [] ∧ s.toList.isEmpty = false := ⟨fun e => h (empty_size.1 e), by rw [isEmpty_size, decide_eq_false h]⟩
set_option maxHeartbeats 4000000 in
theorem impl_se (x : SeL) (w : World) (hr : x.r.size ≤ maxLen) : Calls Tryz.prog 105 #[seV x] w fun e w' => e = .returned (.bool (seB x)) ∧ Below w.heap.size w w' := by
  obtain ⟨r, o, p, s⟩ := x
  have i1 := fun W => impl_res9 r W hr
  have i2 := fun W => impl_show9 s W
  unfold seB seV
  dsimp only at hr ⊢
  obtain ⟨b1, h1⟩ : ∃ b, resB r = b := ⟨_, rfl⟩
  obtain ⟨b2, h2⟩ : ∃ b, showB s = b := ⟨_, rfl⟩
  rw [h1] at i1 ⊢
  rw [h2] at i2 ⊢
  have HB2 := Lib.hid h2
  clear h1 h2 hr
  cases o
  · by_cases hp : p = 0
    · subst hp
      by_cases hs : s.size = 0
      · obtain rfl := size_zero hs
        have e : showB ByteArray.empty = true := by unfold showB; rw [ByteArray.toList_eq]; decide
        rw [HB2.out] at e
        subst e
        clear hs
        cases b1 <;>
          (go_enter Tryz.func105, Tryz.ntmps105
           go_wp2_with (first
             | (go_at_call 121; go_fit (i1 _); rintro e w' ⟨rfl, rfl⟩)
             | (go_at_call 122; go_fit (i2 _); rintro e w' ⟨rfl, rfl⟩))
           go_ret
           exact ⟨ret_bool (by simp; try rfl), (Below.refl _ _).alloc (Nat.le_refl _) _⟩)
      · obtain ⟨q1, q2⟩ := nonempty_facts hs
        rw [decide_eq_false hs]
        go_enter Tryz.func105, Tryz.ntmps105
        go_wp2
        go_ret
        exact ⟨ret_bool (by simp), (Below.refl _ _).alloc (Nat.le_refl _) _⟩
    · have q1 : (p != 0) = true := by simpa using hp
      rw [decide_eq_false hp]
      go_enter Tryz.func105, Tryz.ntmps105
      go_wp2
      go_ret
      exact ⟨ret_bool (by simp), (Below.refl _ _).alloc (Nat.le_refl _) _⟩
  · rcases (by omega : p < -128 ∨ (-128 ≤ p ∧ p ≤ 127) ∨ 127 < p) with hp | ⟨hp, hq⟩ | hp
    · rw [decide_eq_false (show ¬ -128 ≤ p by omega)]
      cases b1 <;>
        (go_enter Tryz.func105, Tryz.ntmps105
         go_wp2_with (first
           | (go_at_call 121; go_fit (i1 _); rintro e w' ⟨rfl, rfl⟩)
           | (go_at_call 122; go_fit (i2 _); rintro e w' ⟨rfl, rfl⟩))
         go_ret
         exact ⟨ret_bool (by simp), (Below.refl _ _).alloc (Nat.le_refl _) _⟩)
    · rw [decide_eq_true hp, decide_eq_true hq]
      cases b1 <;>
        (go_enter Tryz.func105, Tryz.ntmps105
         go_wp2_with (first
           | (go_at_call 121; go_fit (i1 _); rintro e w' ⟨rfl, rfl⟩)
           | (go_at_call 122; go_fit (i2 _); rintro e w' ⟨rfl, rfl⟩))
         go_ret
         exact ⟨ret_bool (by simp), (Below.refl _ _).alloc (Nat.le_refl _) _⟩)
    · rw [decide_eq_false (show ¬ p ≤ 127 by omega)]
      have hq : -128 ≤ p := by omega
      cases b1 <;>
        (go_enter Tryz.func105, Tryz.ntmps105
         go_wp2_with (first
           | (go_at_call 121; go_fit (i1 _); rintro e w' ⟨rfl, rfl⟩)
           | (go_at_call 122; go_fit (i2 _); rintro e w' ⟨rfl, rfl⟩))
         go_ret
         exact ⟨ret_bool (by simp), (Below.refl _ _).alloc (Nat.le_refl _) _⟩)
set_option maxRecDepth 100000 in
set_option maxHeartbeats 1000000 in
theorem impl_seright (xs : List SeL) (p : Option Addr) (c : Nat) (w : World) (hn : xs.length ≤ 1048576) (hw : ∀ x ∈ xs, x.r.size ≤ maxLen) (hR : RowC seC 4 w p xs) :
    Calls Tryz.prog 81 #[.slice p xs.length c] w fun e w' => e = .returned (.bool (okB xs)) ∧ Below w.heap.size w w' := by
  have i1 := impl_inc xs p c w hn hR
  obtain ⟨n, hxn⟩ : ∃ n, xs.length = n := ⟨_, rfl⟩
  have HP := Lib.hid (fun W (h : Below w.heap.size w W) => hR.on h)
  have HW := Lib.hid hw
  have HN := Lib.hid hxn
  obtain ⟨b1, h1⟩ : ∃ b, incB xs = b := ⟨_, rfl⟩
  rw [hxn] at hn i1 ⊢
  rw [h1] at i1
  have H1 := Lib.hid h1
  obtain ⟨Z, hZ⟩ : ∃ Z, okB xs = Z := ⟨_, rfl⟩
  have HZ := Lib.hid hZ
  rw [hZ]
  clear hR hw hxn h1 hZ
  by_cases hbig : 5 < n
  · have HL : Hid (Z = false) := Lib.hid (by rw [← HZ.out]; exact okB_false (fun h => by have := h.1; rw [HN.out] at this; omega))
    go_enter Tryz.func81, Tryz.ntmps81
    go_wp2
    go_ret
    exact ⟨ret_bool HL.out.symm, Below.refl _ _⟩
  cases b1
  · have HL : Hid (Z = false) := Lib.hid (by rw [← HZ.out]; exact okB_false (fun h => by have := incB_true h.2.1; rw [H1.out] at this; cases this))
    go_enter Tryz.func81, Tryz.ntmps81
    go_wp2_with (go_at_call 103; go_fit i1; rintro e w' ⟨rfl, hb⟩)
    go_ret
    exact ⟨ret_bool HL.out.symm, hb⟩
  go_enter Tryz.func81, Tryz.ntmps81
  go_wp2_with (go_at_call 103; go_fit i1; rintro e w1 ⟨rfl, hb⟩; have HB1 := Lib.hid hb; clear hb)
  go_loopw [14] (fun iq wr => ∃ k : Nat, k ≤ n ∧ iq = .int .i64 k ∧ AllR xs k ∧ Below w.heap.size w wr) (fun i _ => n - (intOf i).toNat)
  case atStart => exact ⟨0, Nat.zero_le _, rfl, allR_zero xs, HB1.out⟩
  case round =>
    obtain ⟨k, hk, rfl, hA, hb⟩ := hrel
    have HA := Lib.hid hA
    have HB := Lib.hid hb
    clear hA
    by_cases hlt : k < n
    · have hlt1 : k < xs.length := by rw [HN.out]; exact hlt
      obtain ⟨g, rfl, hg, a0, a1, a2, a3⟩ := row_se4 (HP.out _ hb) hlt1
      have hxw := HW.out _ (List.getElem_mem hlt1)
      obtain ⟨x, hx⟩ : ∃ x, xs[k] = x := ⟨_, rfl⟩
      rw [hx] at a0 a1 a2 a3 hxw
      have i3 := fun W => impl_se x W hxw
      obtain ⟨b3, h3⟩ : ∃ b, seB x = b := ⟨_, rfl⟩
      rw [h3] at i3
      unfold seV at i3
      have H3 : Hid (seB xs[k] = b3) := Lib.hid (by rw [hx]; exact h3)
      clear hb hx h3 hxw
      cases b3
      · have HL : Hid (Z = false) := Lib.hid (by rw [← HZ.out]; exact okB_false (fun h => by have := h.2.2 k hlt1 hlt1; rw [H3.out] at this; cases this))
        go_wp2_with (go_at_call 105; go_fit (i3 _); rintro e w2 ⟨rfl, hb2⟩)
        go_ret
        exact ⟨ret_bool HL.out.symm, HB.out.trans (hb2.mono HB.out.size)⟩
      · go_wp2_with (go_at_call 105; go_fit (i3 _); rintro e w2 ⟨rfl, hb2⟩)
        go_roundw
        case rel => exact ⟨k + 1, by omega, by go_num, allR_succ HA.out hlt1 H3.out, HB.out.trans (hb2.mono HB.out.size)⟩
        case measure => simp [intOf]; omega
    · have HL : Hid (Z = true) := Lib.hid (by
        rw [← HZ.out]
        refine okB_true ⟨by rw [HN.out]; omega, incB_iff.1 H1.out, fun i hi h0 => HA.out i hi ?_⟩
        rw [HN.out] at hi
        omega)
      clear hb
      go_wp2
      go_ret
      exact ⟨ret_bool HL.out.symm, HB.out⟩
end Go.Proofs.YtpjmcpfmnlfmdaaGreat

namespace Go.Proofs.YtpjmcpfmnlfmdaaGreat
set_option linter.unusedSimpArgs false
set_option linter.unusedVariables false
open Go.RowKit

theorem arrS_on {w w1 : World} {b t : Nat} {cs : List Value} (h : Arr w b t cs) (hb : Below w.heap.size w w1) : Arr w1 b t cs := (hb.block b (Array.getElem?_eq_some_iff.1 h).1).trans h
theorem arrS_cells {w : World} {b t : Nat} {a0 a1 a2 a3 : Value} (h : Arr w b t [a0, a1, a2, a3]) : w.cell? ⟨b, 0, none⟩ = some a0 ∧ w.cell? ⟨b, 1, none⟩ = some a1 ∧ w.cell? ⟨b, 2, none⟩ = some a2 ∧ w.cell? ⟨b, 3, none⟩ = some a3 := ⟨h.cell 0, h.cell 1, h.cell 2, h.cell 3⟩
theorem incR_0 (xs : List SeL) : IncR xs 0 := fun i _ h0 h1 => by omega
/-- Is the element ahead less? -/
def ltB (xs : List SeL) (k : Nat) (r : ByteArray) : Bool := match k with
  | 0 => true
  | m + 1 => match xs[m]? with
    | some y => Op.bytesLess y.r.toList r.toList
    | none => true
set_option maxRecDepth 100000 in
set_option maxHeartbeats 16000000 in
theorem spec_seright (xs : List SeL) (p0 : Option Addr) (c : Nat) (w : World) (hn : xs.length ≤ 1048576) (hw : ∀ x ∈ xs, x.r.size ≤ maxLen) (hR : RowC seC 4 w p0 xs) :
    Calls Tryz.prog 71 #[.slice p0 xs.length c] w fun e w' => e = .returned (.bool (okB xs)) ∧ Below w.heap.size w w' := by
  obtain ⟨n, hxn⟩ : ∃ n, xs.length = n := ⟨_, rfl⟩
  have HP := Lib.hid (fun W (h : Below w.heap.size w W) => hR.on h)
  have HW := Lib.hid hw
  have HN := Lib.hid hxn
  rw [hxn] at hn ⊢
  obtain ⟨Z, hZ⟩ : ∃ Z, okB xs = Z := ⟨_, rfl⟩
  have HZ := Lib.hid hZ
  rw [hZ]
  clear hR hw hxn hZ
  go_enter Tryz.func71, Tryz.ntmps71
  go_wp2
  go_loopw [3] (fun iq wr => ∃ k : Nat, k ≤ n ∧ iq = .int .i64 k ∧ IncR xs k ∧ AllR xs k ∧ Below w.heap.size w wr) (fun i _ => n - (intOf i).toNat)
  case atStart => exact ⟨0, Nat.zero_le _, rfl, incR_0 xs, allR_zero xs, Below.refl _ _⟩
  case round =>
    obtain ⟨k, hk, rfl, hI, hA, hb⟩ := hrel
    have HI := Lib.hid hI
    have HA := Lib.hid hA
    have HB := Lib.hid hb
    clear hA hI
    by_cases hlt : k < n
    · have hlt1 : k < xs.length := by rw [HN.out]; exact hlt
      have HRr := HP.out _ hb
      obtain ⟨g, rfl, hg, a0, a1, a2, a3⟩ := row_se4 HRr hlt1
      have hxw := HW.out _ (List.getElem_mem hlt1)
      obtain ⟨x, hx⟩ : ∃ x, xs[k] = x := ⟨_, rfl⟩
      rw [hx] at a0 a1 a2 a3 hxw
      obtain ⟨r, o, p, s⟩ := x
      dsimp only at a0 a1 a2 a3 hxw
      have jA := fun W => spec_res9 r W hxw
      have jD := fun W => spec_is9 p (-128) 127 W
      have jE := fun W => spec_show9 s W
      obtain ⟨b1, h1⟩ : ∃ b, resB r = b := ⟨_, rfl⟩
      obtain ⟨d, h2⟩ : ∃ b, (decide (-128 ≤ p) && decide (p ≤ 127)) = b := ⟨_, rfl⟩
      obtain ⟨e, h3⟩ : ∃ b, showB s = b := ⟨_, rfl⟩
      obtain ⟨bp, h4⟩ : ∃ b, (p != 0) = b := ⟨_, rfl⟩
      obtain ⟨es, h5⟩ : ∃ b, s.toList.isEmpty = b := ⟨_, rfl⟩
      rw [h1] at jA
      rw [h2] at jD
      rw [h3] at jE
      obtain ⟨lt0, h6⟩ : ∃ b, ltB xs k r = b := ⟨_, rfl⟩
      obtain ⟨bad, hbad⟩ : ∃ b, (!(b1 && lt0 && d && e && (o || (!bp && es)))) = b := ⟨_, rfl⟩
      have HBAD : Hid (bad = !(b1 && lt0 && d && e && (o || (!bp && es)))) := Lib.hid hbad.symm
      have HLT0 : Hid (k = 0 → lt0 = true) := Lib.hid (fun h => by subst h; rw [← h6]; rfl)
      have HLT1 : Hid (∀ m, k = m + 1 → ∀ h : m < xs.length, lt0 = Op.bytesLess xs[m].r.toList r.toList) := Lib.hid (fun m h hm => by
        subst h
        rw [← h6]
        show (match xs[m]? with | some y => Op.bytesLess y.r.toList r.toList | none => true) = _
        rw [List.getElem?_eq_getElem hm])
      have HSE : Hid (seB xs[k] = (b1 && d && e && (o || (!bp && es)))) := Lib.hid (by
        rw [hx]
        unfold seB
        dsimp only
        rw [h1, h2, h3, ← h4, ← h5, isEmpty_size]
        have hz : (!(p != 0)) = decide (p = 0) := by
          by_cases q : p = 0
          · subst q; rfl
          · have : (p != 0) = true := by simpa using q
            rw [this, decide_eq_false q]; rfl
        rw [hz]
        cases (o || decide (p = 0) && decide (s.size = 0)) <;> cases b1 <;> cases d <;> cases e <;> rfl)
      have HXR : Hid (xs[k].r = r) := Lib.hid (by rw [hx])
      have HLK : Hid (lt0 = ltB xs k r) := Lib.hid h6.symm
      have HS0 : Hid (∀ W, Below wr.heap.size wr W → RowC seC 4 W (some ⟨g, 0, none⟩) xs ∧ Below w.heap.size w W) := Lib.hid (fun W h => ⟨HRr.on h, hb.trans (h.mono hb.size)⟩)
      clear hb hx hxw h1 h2 h3 h6 hbad HRr
      go_wp2
      have hAx : Arr (wr.alloc (.cells #[.string r, .bool o, .int .i64 p, .string s] 70)) wr.heap.size 70 [.string r, .bool o, .int .i64 p, .string s] := Arr.fresh wr 70 [.string r, .bool o, .int .i64 p, .string s]
      have HX0 := Lib.hid (HS0.out (wr.alloc (.cells #[.string r, .bool o, .int .i64 p, .string s] 70)) ((Below.refl _ _).alloc (Nat.le_refl _) _))
      have HX1 := Lib.hid hAx
      clear hAx HS0 a0 a1 a2 a3
      refine region_join [15, 16, 17, 18, 19, 20, 21, 22, 23, 24, 25, 26, 27, 28, 29, 30, 31, 32, 33, 34, 35, 36, 37, 38, 39, 40, 41, 42, 43, 44, 45, 46, 47, 48, 49, 50, 51, 52, 53, 54, 55, 56, 57, 58, 59, 60] (fun vs W => vs 60 = .bool bad ∧ (Arr W wr.heap.size 70 [.string r, .bool o, .int .i64 p, .string s] ∧ RowC seC 4 W (some ⟨g, 0, none⟩) xs ∧ Below w.heap.size w W)) ?_ ?_
      · refine wp_region_held_drew (S := fun W => (Arr W wr.heap.size 70 [.string r, .bool o, .int .i64 p, .string s] ∧ RowC seC 4 W (some ⟨g, 0, none⟩) xs ∧ Below w.heap.size w W)) (by kernel_rfl) ⟨HX1.out, HX0.out.1, HX0.out.2.drew⟩ (fun hHeld => ?_)
        · generalize (wr.alloc (.cells #[.string r, .bool o, .int .i64 p, .string s] 70)).drew = Wd at hHeld ⊢
          generalize wr.heap.size = bx at hHeld ⊢
          clear HX0 HX1
          refine takeQ (i := 0) (k := 15) (v := .pointer (some ⟨bx, 0, none⟩)) rfl (by rfl) (by kernel_rfl) (by kernel_rfl) (by kernel_rfl) (fun _ _ _ h => h) (by rfl) ?_ hHeld ?_
          · intro w1 hSw; go_simp
          (try simp only [Act.put, List.setIfInBounds_toArray, List.set_cons_zero, List.set_cons_succ])
          refine takeQ (i := 1) (k := 16) (v := .string r) rfl (by rfl) (by kernel_rfl) (by kernel_rfl) (by kernel_rfl) (fun _ _ _ h => h) (by rfl) ?_ hHeld ?_
          · intro w1 hSw; (obtain ⟨m0, m1, m2, m3⟩ := arrS_cells hSw.1); go_simp
          (try simp only [Act.put, List.setIfInBounds_toArray, List.set_cons_zero, List.set_cons_succ])
          refine wpAnyH_ready (rs := [2]) (by kernel_rfl) (by simp) ?_
          refine AllReadyH.cons rfl (fun K hK => ?_) AllReadyH.nil
          rw [if_pos (by rfl)]
          go_simp
          go_fit (jA _)
          rintro e0 wz ⟨rfl, hwz⟩
          subst hwz
          refine hK.out _ _ hHeld (fun hHeld => ?_)
          clear hK K
          (try simp only [Act.put, List.setIfInBounds_toArray, List.set_cons_zero, List.set_cons_succ])
          cases b1
          · skip
            refine takeQ (i := 3) (k := 18) (v := .bool true) rfl (by rfl) (by kernel_rfl) (by kernel_rfl) (by kernel_rfl) (fun _ _ _ h => h) (by rfl) ?_ hHeld ?_
            · intro w1 hSw; go_simp
            (try simp only [Act.put, List.setIfInBounds_toArray, List.set_cons_zero, List.set_cons_succ])
            refine takeQ (i := 4) (k := 19) (v := .bool true) rfl (by rfl) (by kernel_rfl) (by kernel_rfl) (by kernel_rfl) (fun _ _ _ h => h) (by rfl) ?_ hHeld ?_
            · intro w1 hSw; go_simp
            (try simp only [Act.put, List.setIfInBounds_toArray, List.set_cons_zero, List.set_cons_succ])
            refine skipQ (i := 5) (k := 20) rfl (by rfl) (by kernel_rfl) (by kernel_rfl) (by kernel_rfl) (fun _ _ _ h => h) (by rfl) hHeld ?_
            (try simp only [Act.put, List.setIfInBounds_toArray, List.set_cons_zero, List.set_cons_succ])
            refine skipQ (i := 6) (k := 21) rfl (by rfl) (by kernel_rfl) (by kernel_rfl) (by kernel_rfl) (fun _ _ _ h => h) (by rfl) hHeld ?_
            (try simp only [Act.put, List.setIfInBounds_toArray, List.set_cons_zero, List.set_cons_succ])
            refine skipQ (i := 7) (k := 22) rfl (by rfl) (by kernel_rfl) (by kernel_rfl) (by kernel_rfl) (fun _ _ _ h => h) (by rfl) hHeld ?_
            (try simp only [Act.put, List.setIfInBounds_toArray, List.set_cons_zero, List.set_cons_succ])
            refine skipQ (i := 8) (k := 23) rfl (by rfl) (by kernel_rfl) (by kernel_rfl) (by kernel_rfl) (fun _ _ _ h => h) (by rfl) hHeld ?_
            (try simp only [Act.put, List.setIfInBounds_toArray, List.set_cons_zero, List.set_cons_succ])
            refine skipQ (i := 9) (k := 24) rfl (by rfl) (by kernel_rfl) (by kernel_rfl) (by kernel_rfl) (fun _ _ _ h => h) (by rfl) hHeld ?_
            (try simp only [Act.put, List.setIfInBounds_toArray, List.set_cons_zero, List.set_cons_succ])
            refine skipQ (i := 10) (k := 25) rfl (by rfl) (by kernel_rfl) (by kernel_rfl) (by kernel_rfl) (fun _ _ _ h => h) (by rfl) hHeld ?_
            (try simp only [Act.put, List.setIfInBounds_toArray, List.set_cons_zero, List.set_cons_succ])
            refine skipQ (i := 11) (k := 26) rfl (by rfl) (by kernel_rfl) (by kernel_rfl) (by kernel_rfl) (fun _ _ _ h => h) (by rfl) hHeld ?_
            (try simp only [Act.put, List.setIfInBounds_toArray, List.set_cons_zero, List.set_cons_succ])
            refine skipQ (i := 12) (k := 27) rfl (by rfl) (by kernel_rfl) (by kernel_rfl) (by kernel_rfl) (fun _ _ _ h => h) (by rfl) hHeld ?_
            (try simp only [Act.put, List.setIfInBounds_toArray, List.set_cons_zero, List.set_cons_succ])
            refine skipQ (i := 13) (k := 28) rfl (by rfl) (by kernel_rfl) (by kernel_rfl) (by kernel_rfl) (fun _ _ _ h => h) (by rfl) hHeld ?_
            (try simp only [Act.put, List.setIfInBounds_toArray, List.set_cons_zero, List.set_cons_succ])
            refine skipQ (i := 14) (k := 29) rfl (by rfl) (by kernel_rfl) (by kernel_rfl) (by kernel_rfl) (fun _ _ _ h => h) (by rfl) hHeld ?_
            (try simp only [Act.put, List.setIfInBounds_toArray, List.set_cons_zero, List.set_cons_succ])
            refine skipQ (i := 15) (k := 30) rfl (by rfl) (by kernel_rfl) (by kernel_rfl) (by kernel_rfl) (fun _ _ _ h => h) (by rfl) hHeld ?_
            (try simp only [Act.put, List.setIfInBounds_toArray, List.set_cons_zero, List.set_cons_succ])
            refine skipQ (i := 16) (k := 31) rfl (by rfl) (by kernel_rfl) (by kernel_rfl) (by kernel_rfl) (fun _ _ _ h => h) (by rfl) hHeld ?_
            (try simp only [Act.put, List.setIfInBounds_toArray, List.set_cons_zero, List.set_cons_succ])
            refine skipQ (i := 17) (k := 32) rfl (by rfl) (by kernel_rfl) (by kernel_rfl) (by kernel_rfl) (fun _ _ _ h => h) (by rfl) hHeld ?_
            (try simp only [Act.put, List.setIfInBounds_toArray, List.set_cons_zero, List.set_cons_succ])
            refine takeQ (i := 18) (k := 33) (v := .bool true) rfl (by rfl) (by kernel_rfl) (by kernel_rfl) (by kernel_rfl) (fun _ _ _ h => h) (by rfl) ?_ hHeld ?_
            · intro w1 hSw; go_simp
            (try simp only [Act.put, List.setIfInBounds_toArray, List.set_cons_zero, List.set_cons_succ])
            refine takeQ (i := 19) (k := 34) (v := .bool true) rfl (by rfl) (by kernel_rfl) (by kernel_rfl) (by kernel_rfl) (fun _ _ _ h => h) (by rfl) ?_ hHeld ?_
            · intro w1 hSw; go_simp
            (try simp only [Act.put, List.setIfInBounds_toArray, List.set_cons_zero, List.set_cons_succ])
            refine skipQ (i := 20) (k := 35) rfl (by rfl) (by kernel_rfl) (by kernel_rfl) (by kernel_rfl) (fun _ _ _ h => h) (by rfl) hHeld ?_
            (try simp only [Act.put, List.setIfInBounds_toArray, List.set_cons_zero, List.set_cons_succ])
            refine skipQ (i := 21) (k := 36) rfl (by rfl) (by kernel_rfl) (by kernel_rfl) (by kernel_rfl) (fun _ _ _ h => h) (by rfl) hHeld ?_
            (try simp only [Act.put, List.setIfInBounds_toArray, List.set_cons_zero, List.set_cons_succ])
            refine skipQ (i := 22) (k := 37) rfl (by rfl) (by kernel_rfl) (by kernel_rfl) (by kernel_rfl) (fun _ _ _ h => h) (by rfl) hHeld ?_
            (try simp only [Act.put, List.setIfInBounds_toArray, List.set_cons_zero, List.set_cons_succ])
            refine skipQ (i := 23) (k := 38) rfl (by rfl) (by kernel_rfl) (by kernel_rfl) (by kernel_rfl) (fun _ _ _ h => h) (by rfl) hHeld ?_
            (try simp only [Act.put, List.setIfInBounds_toArray, List.set_cons_zero, List.set_cons_succ])
            refine takeQ (i := 24) (k := 39) (v := .bool true) rfl (by rfl) (by kernel_rfl) (by kernel_rfl) (by kernel_rfl) (fun _ _ _ h => h) (by rfl) ?_ hHeld ?_
            · intro w1 hSw; go_simp
            (try simp only [Act.put, List.setIfInBounds_toArray, List.set_cons_zero, List.set_cons_succ])
            refine takeQ (i := 25) (k := 40) (v := .bool true) rfl (by rfl) (by kernel_rfl) (by kernel_rfl) (by kernel_rfl) (fun _ _ _ h => h) (by rfl) ?_ hHeld ?_
            · intro w1 hSw; go_simp
            (try simp only [Act.put, List.setIfInBounds_toArray, List.set_cons_zero, List.set_cons_succ])
            refine skipQ (i := 26) (k := 41) rfl (by rfl) (by kernel_rfl) (by kernel_rfl) (by kernel_rfl) (fun _ _ _ h => h) (by rfl) hHeld ?_
            (try simp only [Act.put, List.setIfInBounds_toArray, List.set_cons_zero, List.set_cons_succ])
            refine skipQ (i := 27) (k := 42) rfl (by rfl) (by kernel_rfl) (by kernel_rfl) (by kernel_rfl) (fun _ _ _ h => h) (by rfl) hHeld ?_
            (try simp only [Act.put, List.setIfInBounds_toArray, List.set_cons_zero, List.set_cons_succ])
            refine skipQ (i := 28) (k := 43) rfl (by rfl) (by kernel_rfl) (by kernel_rfl) (by kernel_rfl) (fun _ _ _ h => h) (by rfl) hHeld ?_
            (try simp only [Act.put, List.setIfInBounds_toArray, List.set_cons_zero, List.set_cons_succ])
            refine skipQ (i := 29) (k := 44) rfl (by rfl) (by kernel_rfl) (by kernel_rfl) (by kernel_rfl) (fun _ _ _ h => h) (by rfl) hHeld ?_
            (try simp only [Act.put, List.setIfInBounds_toArray, List.set_cons_zero, List.set_cons_succ])
            refine takeQ (i := 30) (k := 45) (v := .bool true) rfl (by rfl) (by kernel_rfl) (by kernel_rfl) (by kernel_rfl) (fun _ _ _ h => h) (by rfl) ?_ hHeld ?_
            · intro w1 hSw; go_simp
            (try simp only [Act.put, List.setIfInBounds_toArray, List.set_cons_zero, List.set_cons_succ])
            refine takeQ (i := 31) (k := 46) (v := .bool true) rfl (by rfl) (by kernel_rfl) (by kernel_rfl) (by kernel_rfl) (fun _ _ _ h => h) (by rfl) ?_ hHeld ?_
            · intro w1 hSw; go_simp
            (try simp only [Act.put, List.setIfInBounds_toArray, List.set_cons_zero, List.set_cons_succ])
            refine skipQ (i := 32) (k := 47) rfl (by rfl) (by kernel_rfl) (by kernel_rfl) (by kernel_rfl) (fun _ _ _ h => h) (by rfl) hHeld ?_
            (try simp only [Act.put, List.setIfInBounds_toArray, List.set_cons_zero, List.set_cons_succ])
            refine skipQ (i := 33) (k := 48) rfl (by rfl) (by kernel_rfl) (by kernel_rfl) (by kernel_rfl) (fun _ _ _ h => h) (by rfl) hHeld ?_
            (try simp only [Act.put, List.setIfInBounds_toArray, List.set_cons_zero, List.set_cons_succ])
            refine skipQ (i := 34) (k := 49) rfl (by rfl) (by kernel_rfl) (by kernel_rfl) (by kernel_rfl) (fun _ _ _ h => h) (by rfl) hHeld ?_
            (try simp only [Act.put, List.setIfInBounds_toArray, List.set_cons_zero, List.set_cons_succ])
            refine skipQ (i := 35) (k := 50) rfl (by rfl) (by kernel_rfl) (by kernel_rfl) (by kernel_rfl) (fun _ _ _ h => h) (by rfl) hHeld ?_
            (try simp only [Act.put, List.setIfInBounds_toArray, List.set_cons_zero, List.set_cons_succ])
            refine skipQ (i := 36) (k := 51) rfl (by rfl) (by kernel_rfl) (by kernel_rfl) (by kernel_rfl) (fun _ _ _ h => h) (by rfl) hHeld ?_
            (try simp only [Act.put, List.setIfInBounds_toArray, List.set_cons_zero, List.set_cons_succ])
            refine skipQ (i := 37) (k := 52) rfl (by rfl) (by kernel_rfl) (by kernel_rfl) (by kernel_rfl) (fun _ _ _ h => h) (by rfl) hHeld ?_
            (try simp only [Act.put, List.setIfInBounds_toArray, List.set_cons_zero, List.set_cons_succ])
            refine skipQ (i := 38) (k := 53) rfl (by rfl) (by kernel_rfl) (by kernel_rfl) (by kernel_rfl) (fun _ _ _ h => h) (by rfl) hHeld ?_
            (try simp only [Act.put, List.setIfInBounds_toArray, List.set_cons_zero, List.set_cons_succ])
            refine skipQ (i := 39) (k := 54) rfl (by rfl) (by kernel_rfl) (by kernel_rfl) (by kernel_rfl) (fun _ _ _ h => h) (by rfl) hHeld ?_
            (try simp only [Act.put, List.setIfInBounds_toArray, List.set_cons_zero, List.set_cons_succ])
            refine skipQ (i := 40) (k := 55) rfl (by rfl) (by kernel_rfl) (by kernel_rfl) (by kernel_rfl) (fun _ _ _ h => h) (by rfl) hHeld ?_
            (try simp only [Act.put, List.setIfInBounds_toArray, List.set_cons_zero, List.set_cons_succ])
            refine skipQ (i := 41) (k := 56) rfl (by rfl) (by kernel_rfl) (by kernel_rfl) (by kernel_rfl) (fun _ _ _ h => h) (by rfl) hHeld ?_
            (try simp only [Act.put, List.setIfInBounds_toArray, List.set_cons_zero, List.set_cons_succ])
            refine skipQ (i := 42) (k := 57) rfl (by rfl) (by kernel_rfl) (by kernel_rfl) (by kernel_rfl) (fun _ _ _ h => h) (by rfl) hHeld ?_
            (try simp only [Act.put, List.setIfInBounds_toArray, List.set_cons_zero, List.set_cons_succ])
            refine skipQ (i := 43) (k := 58) rfl (by rfl) (by kernel_rfl) (by kernel_rfl) (by kernel_rfl) (fun _ _ _ h => h) (by rfl) hHeld ?_
            (try simp only [Act.put, List.setIfInBounds_toArray, List.set_cons_zero, List.set_cons_succ])
            refine skipQ (i := 44) (k := 59) rfl (by rfl) (by kernel_rfl) (by kernel_rfl) (by kernel_rfl) (fun _ _ _ h => h) (by rfl) hHeld ?_
            (try simp only [Act.put, List.setIfInBounds_toArray, List.set_cons_zero, List.set_cons_succ])
            refine takeQ (i := 45) (k := 60) (v := .bool true) rfl (by rfl) (by kernel_rfl) (by kernel_rfl) (by kernel_rfl) (fun _ _ _ h => h) (by rfl) ?_ hHeld ?_
            · intro w1 hSw; go_simp
            (try simp only [Act.put, List.setIfInBounds_toArray, List.set_cons_zero, List.set_cons_succ])
            refine wpAnyH_done (by kernel_rfl) ?_ _
            exact ⟨⟨congrArg Value.bool (show true = bad by rw [HBAD.out]; simp), hHeld⟩, by simp only [putAll, Act.put, List.setIfInBounds_toArray, List.set_cons_zero, List.set_cons_succ]; rfl⟩
          · skip
            refine takeQ (i := 3) (k := 18) (v := .bool false) rfl (by rfl) (by kernel_rfl) (by kernel_rfl) (by kernel_rfl) (fun _ _ _ h => h) (by rfl) ?_ hHeld ?_
            · intro w1 hSw; go_simp
            (try simp only [Act.put, List.setIfInBounds_toArray, List.set_cons_zero, List.set_cons_succ])
            refine takeQ (i := 4) (k := 19) (v := .bool false) rfl (by rfl) (by kernel_rfl) (by kernel_rfl) (by kernel_rfl) (fun _ _ _ h => h) (by rfl) ?_ hHeld ?_
            · intro w1 hSw; go_simp
            (try simp only [Act.put, List.setIfInBounds_toArray, List.set_cons_zero, List.set_cons_succ])
            cases k with
            | zero =>
              replace HBAD : Hid (bad = !(true && true && d && e && (o || (!bp && es)))) := Lib.hid (by rw [HBAD.out, HLT0.out rfl])
              refine takeQ (i := 5) (k := 20) (v := .int .i64 0) rfl (by rfl) (by kernel_rfl) (by kernel_rfl) (by kernel_rfl) (fun _ _ _ h => h) (by rfl) ?_ hHeld ?_
              · intro w1 hSw; go_simp
              (try simp only [Act.put, List.setIfInBounds_toArray, List.set_cons_zero, List.set_cons_succ])
              refine takeQ (i := 6) (k := 21) (v := .bool false) rfl (by rfl) (by kernel_rfl) (by kernel_rfl) (by kernel_rfl) (fun _ _ _ h => h) (by rfl) ?_ hHeld ?_
              · intro w1 hSw; go_simp
              (try simp only [Act.put, List.setIfInBounds_toArray, List.set_cons_zero, List.set_cons_succ])
              refine takeQ (i := 7) (k := 22) (v := .bool false) rfl (by rfl) (by kernel_rfl) (by kernel_rfl) (by kernel_rfl) (fun _ _ _ h => h) (by rfl) ?_ hHeld ?_
              · intro w1 hSw; go_simp
              (try simp only [Act.put, List.setIfInBounds_toArray, List.set_cons_zero, List.set_cons_succ])
              refine skipQ (i := 8) (k := 23) rfl (by rfl) (by kernel_rfl) (by kernel_rfl) (by kernel_rfl) (fun _ _ _ h => h) (by rfl) hHeld ?_
              (try simp only [Act.put, List.setIfInBounds_toArray, List.set_cons_zero, List.set_cons_succ])
              refine skipQ (i := 9) (k := 24) rfl (by rfl) (by kernel_rfl) (by kernel_rfl) (by kernel_rfl) (fun _ _ _ h => h) (by rfl) hHeld ?_
              (try simp only [Act.put, List.setIfInBounds_toArray, List.set_cons_zero, List.set_cons_succ])
              refine skipQ (i := 10) (k := 25) rfl (by rfl) (by kernel_rfl) (by kernel_rfl) (by kernel_rfl) (fun _ _ _ h => h) (by rfl) hHeld ?_
              (try simp only [Act.put, List.setIfInBounds_toArray, List.set_cons_zero, List.set_cons_succ])
              refine skipQ (i := 11) (k := 26) rfl (by rfl) (by kernel_rfl) (by kernel_rfl) (by kernel_rfl) (fun _ _ _ h => h) (by rfl) hHeld ?_
              (try simp only [Act.put, List.setIfInBounds_toArray, List.set_cons_zero, List.set_cons_succ])
              refine skipQ (i := 12) (k := 27) rfl (by rfl) (by kernel_rfl) (by kernel_rfl) (by kernel_rfl) (fun _ _ _ h => h) (by rfl) hHeld ?_
              (try simp only [Act.put, List.setIfInBounds_toArray, List.set_cons_zero, List.set_cons_succ])
              refine skipQ (i := 13) (k := 28) rfl (by rfl) (by kernel_rfl) (by kernel_rfl) (by kernel_rfl) (fun _ _ _ h => h) (by rfl) hHeld ?_
              (try simp only [Act.put, List.setIfInBounds_toArray, List.set_cons_zero, List.set_cons_succ])
              refine skipQ (i := 14) (k := 29) rfl (by rfl) (by kernel_rfl) (by kernel_rfl) (by kernel_rfl) (fun _ _ _ h => h) (by rfl) hHeld ?_
              (try simp only [Act.put, List.setIfInBounds_toArray, List.set_cons_zero, List.set_cons_succ])
              refine skipQ (i := 15) (k := 30) rfl (by rfl) (by kernel_rfl) (by kernel_rfl) (by kernel_rfl) (fun _ _ _ h => h) (by rfl) hHeld ?_
              (try simp only [Act.put, List.setIfInBounds_toArray, List.set_cons_zero, List.set_cons_succ])
              refine skipQ (i := 16) (k := 31) rfl (by rfl) (by kernel_rfl) (by kernel_rfl) (by kernel_rfl) (fun _ _ _ h => h) (by rfl) hHeld ?_
              (try simp only [Act.put, List.setIfInBounds_toArray, List.set_cons_zero, List.set_cons_succ])
              refine takeQ (i := 17) (k := 32) (v := .bool false) rfl (by rfl) (by kernel_rfl) (by kernel_rfl) (by kernel_rfl) (fun _ _ _ h => h) (by rfl) ?_ hHeld ?_
              · intro w1 hSw; go_simp
              (try simp only [Act.put, List.setIfInBounds_toArray, List.set_cons_zero, List.set_cons_succ])
              refine takeQ (i := 18) (k := 33) (v := .bool false) rfl (by rfl) (by kernel_rfl) (by kernel_rfl) (by kernel_rfl) (fun _ _ _ h => h) (by rfl) ?_ hHeld ?_
              · intro w1 hSw; go_simp
              (try simp only [Act.put, List.setIfInBounds_toArray, List.set_cons_zero, List.set_cons_succ])
              refine takeQ (i := 19) (k := 34) (v := .bool false) rfl (by rfl) (by kernel_rfl) (by kernel_rfl) (by kernel_rfl) (fun _ _ _ h => h) (by rfl) ?_ hHeld ?_
              · intro w1 hSw; go_simp
              (try simp only [Act.put, List.setIfInBounds_toArray, List.set_cons_zero, List.set_cons_succ])
              refine takeQ (i := 20) (k := 35) (v := .pointer (some ⟨bx, 2, none⟩)) rfl (by rfl) (by kernel_rfl) (by kernel_rfl) (by kernel_rfl) (fun _ _ _ h => h) (by rfl) ?_ hHeld ?_
              · intro w1 hSw; go_simp
              (try simp only [Act.put, List.setIfInBounds_toArray, List.set_cons_zero, List.set_cons_succ])
              refine takeQ (i := 21) (k := 36) (v := .int .i64 p) rfl (by rfl) (by kernel_rfl) (by kernel_rfl) (by kernel_rfl) (fun _ _ _ h => h) (by rfl) ?_ hHeld ?_
              · intro w1 hSw; (obtain ⟨m0, m1, m2, m3⟩ := arrS_cells hSw.1); go_simp
              (try simp only [Act.put, List.setIfInBounds_toArray, List.set_cons_zero, List.set_cons_succ])
              refine wpAnyH_ready (rs := [22]) (by kernel_rfl) (by simp) ?_
              refine AllReadyH.cons rfl (fun K hK => ?_) AllReadyH.nil
              rw [if_pos (by rfl)]
              go_simp
              go_fit (jD _)
              rintro e0 wz ⟨rfl, hwz⟩
              subst hwz
              refine hK.out _ _ hHeld (fun hHeld => ?_)
              clear hK K
              (try simp only [Act.put, List.setIfInBounds_toArray, List.set_cons_zero, List.set_cons_succ])
              cases d
              · skip
                refine takeQ (i := 23) (k := 38) (v := .bool true) rfl (by rfl) (by kernel_rfl) (by kernel_rfl) (by kernel_rfl) (fun _ _ _ h => h) (by rfl) ?_ hHeld ?_
                · intro w1 hSw; go_simp
                (try simp only [Act.put, List.setIfInBounds_toArray, List.set_cons_zero, List.set_cons_succ])
                refine takeQ (i := 24) (k := 39) (v := .bool true) rfl (by rfl) (by kernel_rfl) (by kernel_rfl) (by kernel_rfl) (fun _ _ _ h => h) (by rfl) ?_ hHeld ?_
                · intro w1 hSw; go_simp
                (try simp only [Act.put, List.setIfInBounds_toArray, List.set_cons_zero, List.set_cons_succ])
                refine takeQ (i := 25) (k := 40) (v := .bool true) rfl (by rfl) (by kernel_rfl) (by kernel_rfl) (by kernel_rfl) (fun _ _ _ h => h) (by rfl) ?_ hHeld ?_
                · intro w1 hSw; go_simp
                (try simp only [Act.put, List.setIfInBounds_toArray, List.set_cons_zero, List.set_cons_succ])
                refine skipQ (i := 26) (k := 41) rfl (by rfl) (by kernel_rfl) (by kernel_rfl) (by kernel_rfl) (fun _ _ _ h => h) (by rfl) hHeld ?_
                (try simp only [Act.put, List.setIfInBounds_toArray, List.set_cons_zero, List.set_cons_succ])
                refine skipQ (i := 27) (k := 42) rfl (by rfl) (by kernel_rfl) (by kernel_rfl) (by kernel_rfl) (fun _ _ _ h => h) (by rfl) hHeld ?_
                (try simp only [Act.put, List.setIfInBounds_toArray, List.set_cons_zero, List.set_cons_succ])
                refine skipQ (i := 28) (k := 43) rfl (by rfl) (by kernel_rfl) (by kernel_rfl) (by kernel_rfl) (fun _ _ _ h => h) (by rfl) hHeld ?_
                (try simp only [Act.put, List.setIfInBounds_toArray, List.set_cons_zero, List.set_cons_succ])
                refine skipQ (i := 29) (k := 44) rfl (by rfl) (by kernel_rfl) (by kernel_rfl) (by kernel_rfl) (fun _ _ _ h => h) (by rfl) hHeld ?_
                (try simp only [Act.put, List.setIfInBounds_toArray, List.set_cons_zero, List.set_cons_succ])
                refine takeQ (i := 30) (k := 45) (v := .bool true) rfl (by rfl) (by kernel_rfl) (by kernel_rfl) (by kernel_rfl) (fun _ _ _ h => h) (by rfl) ?_ hHeld ?_
                · intro w1 hSw; go_simp
                (try simp only [Act.put, List.setIfInBounds_toArray, List.set_cons_zero, List.set_cons_succ])
                refine takeQ (i := 31) (k := 46) (v := .bool true) rfl (by rfl) (by kernel_rfl) (by kernel_rfl) (by kernel_rfl) (fun _ _ _ h => h) (by rfl) ?_ hHeld ?_
                · intro w1 hSw; go_simp
                (try simp only [Act.put, List.setIfInBounds_toArray, List.set_cons_zero, List.set_cons_succ])
                refine skipQ (i := 32) (k := 47) rfl (by rfl) (by kernel_rfl) (by kernel_rfl) (by kernel_rfl) (fun _ _ _ h => h) (by rfl) hHeld ?_
                (try simp only [Act.put, List.setIfInBounds_toArray, List.set_cons_zero, List.set_cons_succ])
                refine skipQ (i := 33) (k := 48) rfl (by rfl) (by kernel_rfl) (by kernel_rfl) (by kernel_rfl) (fun _ _ _ h => h) (by rfl) hHeld ?_
                (try simp only [Act.put, List.setIfInBounds_toArray, List.set_cons_zero, List.set_cons_succ])
                refine skipQ (i := 34) (k := 49) rfl (by rfl) (by kernel_rfl) (by kernel_rfl) (by kernel_rfl) (fun _ _ _ h => h) (by rfl) hHeld ?_
                (try simp only [Act.put, List.setIfInBounds_toArray, List.set_cons_zero, List.set_cons_succ])
                refine skipQ (i := 35) (k := 50) rfl (by rfl) (by kernel_rfl) (by kernel_rfl) (by kernel_rfl) (fun _ _ _ h => h) (by rfl) hHeld ?_
                (try simp only [Act.put, List.setIfInBounds_toArray, List.set_cons_zero, List.set_cons_succ])
                refine skipQ (i := 36) (k := 51) rfl (by rfl) (by kernel_rfl) (by kernel_rfl) (by kernel_rfl) (fun _ _ _ h => h) (by rfl) hHeld ?_
                (try simp only [Act.put, List.setIfInBounds_toArray, List.set_cons_zero, List.set_cons_succ])
                refine skipQ (i := 37) (k := 52) rfl (by rfl) (by kernel_rfl) (by kernel_rfl) (by kernel_rfl) (fun _ _ _ h => h) (by rfl) hHeld ?_
                (try simp only [Act.put, List.setIfInBounds_toArray, List.set_cons_zero, List.set_cons_succ])
                refine skipQ (i := 38) (k := 53) rfl (by rfl) (by kernel_rfl) (by kernel_rfl) (by kernel_rfl) (fun _ _ _ h => h) (by rfl) hHeld ?_
                (try simp only [Act.put, List.setIfInBounds_toArray, List.set_cons_zero, List.set_cons_succ])
                refine skipQ (i := 39) (k := 54) rfl (by rfl) (by kernel_rfl) (by kernel_rfl) (by kernel_rfl) (fun _ _ _ h => h) (by rfl) hHeld ?_
                (try simp only [Act.put, List.setIfInBounds_toArray, List.set_cons_zero, List.set_cons_succ])
                refine skipQ (i := 40) (k := 55) rfl (by rfl) (by kernel_rfl) (by kernel_rfl) (by kernel_rfl) (fun _ _ _ h => h) (by rfl) hHeld ?_
                (try simp only [Act.put, List.setIfInBounds_toArray, List.set_cons_zero, List.set_cons_succ])
                refine skipQ (i := 41) (k := 56) rfl (by rfl) (by kernel_rfl) (by kernel_rfl) (by kernel_rfl) (fun _ _ _ h => h) (by rfl) hHeld ?_
                (try simp only [Act.put, List.setIfInBounds_toArray, List.set_cons_zero, List.set_cons_succ])
                refine skipQ (i := 42) (k := 57) rfl (by rfl) (by kernel_rfl) (by kernel_rfl) (by kernel_rfl) (fun _ _ _ h => h) (by rfl) hHeld ?_
                (try simp only [Act.put, List.setIfInBounds_toArray, List.set_cons_zero, List.set_cons_succ])
                refine skipQ (i := 43) (k := 58) rfl (by rfl) (by kernel_rfl) (by kernel_rfl) (by kernel_rfl) (fun _ _ _ h => h) (by rfl) hHeld ?_
                (try simp only [Act.put, List.setIfInBounds_toArray, List.set_cons_zero, List.set_cons_succ])
                refine skipQ (i := 44) (k := 59) rfl (by rfl) (by kernel_rfl) (by kernel_rfl) (by kernel_rfl) (fun _ _ _ h => h) (by rfl) hHeld ?_
                (try simp only [Act.put, List.setIfInBounds_toArray, List.set_cons_zero, List.set_cons_succ])
                refine takeQ (i := 45) (k := 60) (v := .bool true) rfl (by rfl) (by kernel_rfl) (by kernel_rfl) (by kernel_rfl) (fun _ _ _ h => h) (by rfl) ?_ hHeld ?_
                · intro w1 hSw; go_simp
                (try simp only [Act.put, List.setIfInBounds_toArray, List.set_cons_zero, List.set_cons_succ])
                refine wpAnyH_done (by kernel_rfl) ?_ _
                exact ⟨⟨congrArg Value.bool (show true = bad by rw [HBAD.out]; simp), hHeld⟩, by simp only [putAll, Act.put, List.setIfInBounds_toArray, List.set_cons_zero, List.set_cons_succ]; rfl⟩
              · skip
                refine takeQ (i := 23) (k := 38) (v := .bool false) rfl (by rfl) (by kernel_rfl) (by kernel_rfl) (by kernel_rfl) (fun _ _ _ h => h) (by rfl) ?_ hHeld ?_
                · intro w1 hSw; go_simp
                (try simp only [Act.put, List.setIfInBounds_toArray, List.set_cons_zero, List.set_cons_succ])
                refine takeQ (i := 24) (k := 39) (v := .bool false) rfl (by rfl) (by kernel_rfl) (by kernel_rfl) (by kernel_rfl) (fun _ _ _ h => h) (by rfl) ?_ hHeld ?_
                · intro w1 hSw; go_simp
                (try simp only [Act.put, List.setIfInBounds_toArray, List.set_cons_zero, List.set_cons_succ])
                refine takeQ (i := 25) (k := 40) (v := .bool false) rfl (by rfl) (by kernel_rfl) (by kernel_rfl) (by kernel_rfl) (fun _ _ _ h => h) (by rfl) ?_ hHeld ?_
                · intro w1 hSw; go_simp
                (try simp only [Act.put, List.setIfInBounds_toArray, List.set_cons_zero, List.set_cons_succ])
                refine takeQ (i := 26) (k := 41) (v := .pointer (some ⟨bx, 3, none⟩)) rfl (by rfl) (by kernel_rfl) (by kernel_rfl) (by kernel_rfl) (fun _ _ _ h => h) (by rfl) ?_ hHeld ?_
                · intro w1 hSw; go_simp
                (try simp only [Act.put, List.setIfInBounds_toArray, List.set_cons_zero, List.set_cons_succ])
                refine takeQ (i := 27) (k := 42) (v := .string s) rfl (by rfl) (by kernel_rfl) (by kernel_rfl) (by kernel_rfl) (fun _ _ _ h => h) (by rfl) ?_ hHeld ?_
                · intro w1 hSw; (obtain ⟨m0, m1, m2, m3⟩ := arrS_cells hSw.1); go_simp
                (try simp only [Act.put, List.setIfInBounds_toArray, List.set_cons_zero, List.set_cons_succ])
                refine wpAnyH_ready (rs := [28]) (by kernel_rfl) (by simp) ?_
                refine AllReadyH.cons rfl (fun K hK => ?_) AllReadyH.nil
                rw [if_pos (by rfl)]
                go_simp
                go_fit (jE _)
                rintro e0 wz ⟨rfl, hbz⟩
                refine hK.out _ _ ⟨arrS_on hHeld.1 hbz, hHeld.2.1.on hbz, hHeld.2.2.trans (hbz.mono hHeld.2.2.size)⟩ (fun hHeld => ?_)
                clear hK K
                (try simp only [Act.put, List.setIfInBounds_toArray, List.set_cons_zero, List.set_cons_succ])
                cases e
                · skip
                  refine takeQ (i := 29) (k := 44) (v := .bool true) rfl (by rfl) (by kernel_rfl) (by kernel_rfl) (by kernel_rfl) (fun _ _ _ h => h) (by rfl) ?_ hHeld ?_
                  · intro w1 hSw; go_simp
                  (try simp only [Act.put, List.setIfInBounds_toArray, List.set_cons_zero, List.set_cons_succ])
                  refine takeQ (i := 30) (k := 45) (v := .bool true) rfl (by rfl) (by kernel_rfl) (by kernel_rfl) (by kernel_rfl) (fun _ _ _ h => h) (by rfl) ?_ hHeld ?_
                  · intro w1 hSw; go_simp
                  (try simp only [Act.put, List.setIfInBounds_toArray, List.set_cons_zero, List.set_cons_succ])
                  refine takeQ (i := 31) (k := 46) (v := .bool true) rfl (by rfl) (by kernel_rfl) (by kernel_rfl) (by kernel_rfl) (fun _ _ _ h => h) (by rfl) ?_ hHeld ?_
                  · intro w1 hSw; go_simp
                  (try simp only [Act.put, List.setIfInBounds_toArray, List.set_cons_zero, List.set_cons_succ])
                  refine skipQ (i := 32) (k := 47) rfl (by rfl) (by kernel_rfl) (by kernel_rfl) (by kernel_rfl) (fun _ _ _ h => h) (by rfl) hHeld ?_
                  (try simp only [Act.put, List.setIfInBounds_toArray, List.set_cons_zero, List.set_cons_succ])
                  refine skipQ (i := 33) (k := 48) rfl (by rfl) (by kernel_rfl) (by kernel_rfl) (by kernel_rfl) (fun _ _ _ h => h) (by rfl) hHeld ?_
                  (try simp only [Act.put, List.setIfInBounds_toArray, List.set_cons_zero, List.set_cons_succ])
                  refine skipQ (i := 34) (k := 49) rfl (by rfl) (by kernel_rfl) (by kernel_rfl) (by kernel_rfl) (fun _ _ _ h => h) (by rfl) hHeld ?_
                  (try simp only [Act.put, List.setIfInBounds_toArray, List.set_cons_zero, List.set_cons_succ])
                  refine skipQ (i := 35) (k := 50) rfl (by rfl) (by kernel_rfl) (by kernel_rfl) (by kernel_rfl) (fun _ _ _ h => h) (by rfl) hHeld ?_
                  (try simp only [Act.put, List.setIfInBounds_toArray, List.set_cons_zero, List.set_cons_succ])
                  refine skipQ (i := 36) (k := 51) rfl (by rfl) (by kernel_rfl) (by kernel_rfl) (by kernel_rfl) (fun _ _ _ h => h) (by rfl) hHeld ?_
                  (try simp only [Act.put, List.setIfInBounds_toArray, List.set_cons_zero, List.set_cons_succ])
                  refine skipQ (i := 37) (k := 52) rfl (by rfl) (by kernel_rfl) (by kernel_rfl) (by kernel_rfl) (fun _ _ _ h => h) (by rfl) hHeld ?_
                  (try simp only [Act.put, List.setIfInBounds_toArray, List.set_cons_zero, List.set_cons_succ])
                  refine skipQ (i := 38) (k := 53) rfl (by rfl) (by kernel_rfl) (by kernel_rfl) (by kernel_rfl) (fun _ _ _ h => h) (by rfl) hHeld ?_
                  (try simp only [Act.put, List.setIfInBounds_toArray, List.set_cons_zero, List.set_cons_succ])
                  refine skipQ (i := 39) (k := 54) rfl (by rfl) (by kernel_rfl) (by kernel_rfl) (by kernel_rfl) (fun _ _ _ h => h) (by rfl) hHeld ?_
                  (try simp only [Act.put, List.setIfInBounds_toArray, List.set_cons_zero, List.set_cons_succ])
                  refine skipQ (i := 40) (k := 55) rfl (by rfl) (by kernel_rfl) (by kernel_rfl) (by kernel_rfl) (fun _ _ _ h => h) (by rfl) hHeld ?_
                  (try simp only [Act.put, List.setIfInBounds_toArray, List.set_cons_zero, List.set_cons_succ])
                  refine skipQ (i := 41) (k := 56) rfl (by rfl) (by kernel_rfl) (by kernel_rfl) (by kernel_rfl) (fun _ _ _ h => h) (by rfl) hHeld ?_
                  (try simp only [Act.put, List.setIfInBounds_toArray, List.set_cons_zero, List.set_cons_succ])
                  refine skipQ (i := 42) (k := 57) rfl (by rfl) (by kernel_rfl) (by kernel_rfl) (by kernel_rfl) (fun _ _ _ h => h) (by rfl) hHeld ?_
                  (try simp only [Act.put, List.setIfInBounds_toArray, List.set_cons_zero, List.set_cons_succ])
                  refine skipQ (i := 43) (k := 58) rfl (by rfl) (by kernel_rfl) (by kernel_rfl) (by kernel_rfl) (fun _ _ _ h => h) (by rfl) hHeld ?_
                  (try simp only [Act.put, List.setIfInBounds_toArray, List.set_cons_zero, List.set_cons_succ])
                  refine skipQ (i := 44) (k := 59) rfl (by rfl) (by kernel_rfl) (by kernel_rfl) (by kernel_rfl) (fun _ _ _ h => h) (by rfl) hHeld ?_
                  (try simp only [Act.put, List.setIfInBounds_toArray, List.set_cons_zero, List.set_cons_succ])
                  refine takeQ (i := 45) (k := 60) (v := .bool true) rfl (by rfl) (by kernel_rfl) (by kernel_rfl) (by kernel_rfl) (fun _ _ _ h => h) (by rfl) ?_ hHeld ?_
                  · intro w1 hSw; go_simp
                  (try simp only [Act.put, List.setIfInBounds_toArray, List.set_cons_zero, List.set_cons_succ])
                  refine wpAnyH_done (by kernel_rfl) ?_ _
                  exact ⟨⟨congrArg Value.bool (show true = bad by rw [HBAD.out]; simp), hHeld⟩, by simp only [putAll, Act.put, List.setIfInBounds_toArray, List.set_cons_zero, List.set_cons_succ]; rfl⟩
                · skip
                  refine takeQ (i := 29) (k := 44) (v := .bool false) rfl (by rfl) (by kernel_rfl) (by kernel_rfl) (by kernel_rfl) (fun _ _ _ h => h) (by rfl) ?_ hHeld ?_
                  · intro w1 hSw; go_simp
                  (try simp only [Act.put, List.setIfInBounds_toArray, List.set_cons_zero, List.set_cons_succ])
                  refine takeQ (i := 30) (k := 45) (v := .bool false) rfl (by rfl) (by kernel_rfl) (by kernel_rfl) (by kernel_rfl) (fun _ _ _ h => h) (by rfl) ?_ hHeld ?_
                  · intro w1 hSw; go_simp
                  (try simp only [Act.put, List.setIfInBounds_toArray, List.set_cons_zero, List.set_cons_succ])
                  refine takeQ (i := 31) (k := 46) (v := .bool false) rfl (by rfl) (by kernel_rfl) (by kernel_rfl) (by kernel_rfl) (fun _ _ _ h => h) (by rfl) ?_ hHeld ?_
                  · intro w1 hSw; go_simp
                  (try simp only [Act.put, List.setIfInBounds_toArray, List.set_cons_zero, List.set_cons_succ])
                  refine takeQ (i := 32) (k := 47) (v := .pointer (some ⟨bx, 1, none⟩)) rfl (by rfl) (by kernel_rfl) (by kernel_rfl) (by kernel_rfl) (fun _ _ _ h => h) (by rfl) ?_ hHeld ?_
                  · intro w1 hSw; go_simp
                  (try simp only [Act.put, List.setIfInBounds_toArray, List.set_cons_zero, List.set_cons_succ])
                  refine takeQ (i := 33) (k := 48) (v := .bool o) rfl (by rfl) (by kernel_rfl) (by kernel_rfl) (by kernel_rfl) (fun _ _ _ h => h) (by rfl) ?_ hHeld ?_
                  · intro w1 hSw; (obtain ⟨m0, m1, m2, m3⟩ := arrS_cells hSw.1); go_simp
                  (try simp only [Act.put, List.setIfInBounds_toArray, List.set_cons_zero, List.set_cons_succ])
                  cases o
                  · skip
                    refine takeQ (i := 34) (k := 49) (v := .bool true) rfl (by rfl) (by kernel_rfl) (by kernel_rfl) (by kernel_rfl) (fun _ _ _ h => h) (by rfl) ?_ hHeld ?_
                    · intro w1 hSw; go_simp
                    (try simp only [Act.put, List.setIfInBounds_toArray, List.set_cons_zero, List.set_cons_succ])
                    refine takeQ (i := 35) (k := 50) (v := .bool true) rfl (by rfl) (by kernel_rfl) (by kernel_rfl) (by kernel_rfl) (fun _ _ _ h => h) (by rfl) ?_ hHeld ?_
                    · intro w1 hSw; go_simp
                    (try simp only [Act.put, List.setIfInBounds_toArray, List.set_cons_zero, List.set_cons_succ])
                    refine takeQ (i := 36) (k := 51) (v := .pointer (some ⟨bx, 2, none⟩)) rfl (by rfl) (by kernel_rfl) (by kernel_rfl) (by kernel_rfl) (fun _ _ _ h => h) (by rfl) ?_ hHeld ?_
                    · intro w1 hSw; go_simp
                    (try simp only [Act.put, List.setIfInBounds_toArray, List.set_cons_zero, List.set_cons_succ])
                    refine takeQ (i := 37) (k := 52) (v := .int .i64 p) rfl (by rfl) (by kernel_rfl) (by kernel_rfl) (by kernel_rfl) (fun _ _ _ h => h) (by rfl) ?_ hHeld ?_
                    · intro w1 hSw; (obtain ⟨m0, m1, m2, m3⟩ := arrS_cells hSw.1); go_simp
                    (try simp only [Act.put, List.setIfInBounds_toArray, List.set_cons_zero, List.set_cons_succ])
                    refine takeQ (i := 38) (k := 53) (v := .bool bp) rfl (by rfl) (by kernel_rfl) (by kernel_rfl) (by kernel_rfl) (fun _ _ _ h => h) (by rfl) ?_ hHeld ?_
                    · intro w1 hSw; go_simp
                    (try simp only [Act.put, List.setIfInBounds_toArray, List.set_cons_zero, List.set_cons_succ])
                    cases bp
                    · skip
                      refine takeQ (i := 39) (k := 54) (v := .bool false) rfl (by rfl) (by kernel_rfl) (by kernel_rfl) (by kernel_rfl) (fun _ _ _ h => h) (by rfl) ?_ hHeld ?_
                      · intro w1 hSw; go_simp
                      (try simp only [Act.put, List.setIfInBounds_toArray, List.set_cons_zero, List.set_cons_succ])
                      refine takeQ (i := 40) (k := 55) (v := .pointer (some ⟨bx, 3, none⟩)) rfl (by rfl) (by kernel_rfl) (by kernel_rfl) (by kernel_rfl) (fun _ _ _ h => h) (by rfl) ?_ hHeld ?_
                      · intro w1 hSw; go_simp
                      (try simp only [Act.put, List.setIfInBounds_toArray, List.set_cons_zero, List.set_cons_succ])
                      refine takeQ (i := 41) (k := 56) (v := .string s) rfl (by rfl) (by kernel_rfl) (by kernel_rfl) (by kernel_rfl) (fun _ _ _ h => h) (by rfl) ?_ hHeld ?_
                      · intro w1 hSw; (obtain ⟨m0, m1, m2, m3⟩ := arrS_cells hSw.1); go_simp
                      (try simp only [Act.put, List.setIfInBounds_toArray, List.set_cons_zero, List.set_cons_succ])
                      refine takeQ (i := 42) (k := 57) (v := .bool (!es)) rfl (by rfl) (by kernel_rfl) (by kernel_rfl) (by kernel_rfl) (fun _ _ _ h => h) (by rfl) ?_ hHeld ?_
                      · intro w1 hSw; go_simp
                      (try simp only [Act.put, List.setIfInBounds_toArray, List.set_cons_zero, List.set_cons_succ])
                      cases es
                      · skip
                        refine takeQ (i := 43) (k := 58) (v := .bool true) rfl (by rfl) (by kernel_rfl) (by kernel_rfl) (by kernel_rfl) (fun _ _ _ h => h) (by rfl) ?_ hHeld ?_
                        · intro w1 hSw; go_simp
                        (try simp only [Act.put, List.setIfInBounds_toArray, List.set_cons_zero, List.set_cons_succ])
                        refine takeQ (i := 44) (k := 59) (v := .bool true) rfl (by rfl) (by kernel_rfl) (by kernel_rfl) (by kernel_rfl) (fun _ _ _ h => h) (by rfl) ?_ hHeld ?_
                        · intro w1 hSw; go_simp
                        (try simp only [Act.put, List.setIfInBounds_toArray, List.set_cons_zero, List.set_cons_succ])
                        refine takeQ (i := 45) (k := 60) (v := .bool true) rfl (by rfl) (by kernel_rfl) (by kernel_rfl) (by kernel_rfl) (fun _ _ _ h => h) (by rfl) ?_ hHeld ?_
                        · intro w1 hSw; go_simp
                        (try simp only [Act.put, List.setIfInBounds_toArray, List.set_cons_zero, List.set_cons_succ])
                        refine wpAnyH_done (by kernel_rfl) ?_ _
                        exact ⟨⟨congrArg Value.bool (show true = bad by rw [HBAD.out]; simp), hHeld⟩, by simp only [putAll, Act.put, List.setIfInBounds_toArray, List.set_cons_zero, List.set_cons_succ]; rfl⟩
                      · skip
                        refine takeQ (i := 43) (k := 58) (v := .bool false) rfl (by rfl) (by kernel_rfl) (by kernel_rfl) (by kernel_rfl) (fun _ _ _ h => h) (by rfl) ?_ hHeld ?_
                        · intro w1 hSw; go_simp
                        (try simp only [Act.put, List.setIfInBounds_toArray, List.set_cons_zero, List.set_cons_succ])
                        refine takeQ (i := 44) (k := 59) (v := .bool false) rfl (by rfl) (by kernel_rfl) (by kernel_rfl) (by kernel_rfl) (fun _ _ _ h => h) (by rfl) ?_ hHeld ?_
                        · intro w1 hSw; go_simp
                        (try simp only [Act.put, List.setIfInBounds_toArray, List.set_cons_zero, List.set_cons_succ])
                        refine takeQ (i := 45) (k := 60) (v := .bool false) rfl (by rfl) (by kernel_rfl) (by kernel_rfl) (by kernel_rfl) (fun _ _ _ h => h) (by rfl) ?_ hHeld ?_
                        · intro w1 hSw; go_simp
                        (try simp only [Act.put, List.setIfInBounds_toArray, List.set_cons_zero, List.set_cons_succ])
                        refine wpAnyH_done (by kernel_rfl) ?_ _
                        exact ⟨⟨congrArg Value.bool (show false = bad by rw [HBAD.out]; simp), hHeld⟩, by simp only [putAll, Act.put, List.setIfInBounds_toArray, List.set_cons_zero, List.set_cons_succ]; rfl⟩
                    · skip
                      refine takeQ (i := 39) (k := 54) (v := .bool true) rfl (by rfl) (by kernel_rfl) (by kernel_rfl) (by kernel_rfl) (fun _ _ _ h => h) (by rfl) ?_ hHeld ?_
                      · intro w1 hSw; go_simp
                      (try simp only [Act.put, List.setIfInBounds_toArray, List.set_cons_zero, List.set_cons_succ])
                      refine skipQ (i := 40) (k := 55) rfl (by rfl) (by kernel_rfl) (by kernel_rfl) (by kernel_rfl) (fun _ _ _ h => h) (by rfl) hHeld ?_
                      (try simp only [Act.put, List.setIfInBounds_toArray, List.set_cons_zero, List.set_cons_succ])
                      refine skipQ (i := 41) (k := 56) rfl (by rfl) (by kernel_rfl) (by kernel_rfl) (by kernel_rfl) (fun _ _ _ h => h) (by rfl) hHeld ?_
                      (try simp only [Act.put, List.setIfInBounds_toArray, List.set_cons_zero, List.set_cons_succ])
                      refine skipQ (i := 42) (k := 57) rfl (by rfl) (by kernel_rfl) (by kernel_rfl) (by kernel_rfl) (fun _ _ _ h => h) (by rfl) hHeld ?_
                      (try simp only [Act.put, List.setIfInBounds_toArray, List.set_cons_zero, List.set_cons_succ])
                      refine takeQ (i := 43) (k := 58) (v := .bool true) rfl (by rfl) (by kernel_rfl) (by kernel_rfl) (by kernel_rfl) (fun _ _ _ h => h) (by rfl) ?_ hHeld ?_
                      · intro w1 hSw; go_simp
                      (try simp only [Act.put, List.setIfInBounds_toArray, List.set_cons_zero, List.set_cons_succ])
                      refine takeQ (i := 44) (k := 59) (v := .bool true) rfl (by rfl) (by kernel_rfl) (by kernel_rfl) (by kernel_rfl) (fun _ _ _ h => h) (by rfl) ?_ hHeld ?_
                      · intro w1 hSw; go_simp
                      (try simp only [Act.put, List.setIfInBounds_toArray, List.set_cons_zero, List.set_cons_succ])
                      refine takeQ (i := 45) (k := 60) (v := .bool true) rfl (by rfl) (by kernel_rfl) (by kernel_rfl) (by kernel_rfl) (fun _ _ _ h => h) (by rfl) ?_ hHeld ?_
                      · intro w1 hSw; go_simp
                      (try simp only [Act.put, List.setIfInBounds_toArray, List.set_cons_zero, List.set_cons_succ])
                      refine wpAnyH_done (by kernel_rfl) ?_ _
                      exact ⟨⟨congrArg Value.bool (show true = bad by rw [HBAD.out]; simp), hHeld⟩, by simp only [putAll, Act.put, List.setIfInBounds_toArray, List.set_cons_zero, List.set_cons_succ]; rfl⟩
                  · skip
                    refine takeQ (i := 34) (k := 49) (v := .bool false) rfl (by rfl) (by kernel_rfl) (by kernel_rfl) (by kernel_rfl) (fun _ _ _ h => h) (by rfl) ?_ hHeld ?_
                    · intro w1 hSw; go_simp
                    (try simp only [Act.put, List.setIfInBounds_toArray, List.set_cons_zero, List.set_cons_succ])
                    refine takeQ (i := 35) (k := 50) (v := .bool false) rfl (by rfl) (by kernel_rfl) (by kernel_rfl) (by kernel_rfl) (fun _ _ _ h => h) (by rfl) ?_ hHeld ?_
                    · intro w1 hSw; go_simp
                    (try simp only [Act.put, List.setIfInBounds_toArray, List.set_cons_zero, List.set_cons_succ])
                    refine skipQ (i := 36) (k := 51) rfl (by rfl) (by kernel_rfl) (by kernel_rfl) (by kernel_rfl) (fun _ _ _ h => h) (by rfl) hHeld ?_
                    (try simp only [Act.put, List.setIfInBounds_toArray, List.set_cons_zero, List.set_cons_succ])
                    refine skipQ (i := 37) (k := 52) rfl (by rfl) (by kernel_rfl) (by kernel_rfl) (by kernel_rfl) (fun _ _ _ h => h) (by rfl) hHeld ?_
                    (try simp only [Act.put, List.setIfInBounds_toArray, List.set_cons_zero, List.set_cons_succ])
                    refine skipQ (i := 38) (k := 53) rfl (by rfl) (by kernel_rfl) (by kernel_rfl) (by kernel_rfl) (fun _ _ _ h => h) (by rfl) hHeld ?_
                    (try simp only [Act.put, List.setIfInBounds_toArray, List.set_cons_zero, List.set_cons_succ])
                    refine skipQ (i := 39) (k := 54) rfl (by rfl) (by kernel_rfl) (by kernel_rfl) (by kernel_rfl) (fun _ _ _ h => h) (by rfl) hHeld ?_
                    (try simp only [Act.put, List.setIfInBounds_toArray, List.set_cons_zero, List.set_cons_succ])
                    refine skipQ (i := 40) (k := 55) rfl (by rfl) (by kernel_rfl) (by kernel_rfl) (by kernel_rfl) (fun _ _ _ h => h) (by rfl) hHeld ?_
                    (try simp only [Act.put, List.setIfInBounds_toArray, List.set_cons_zero, List.set_cons_succ])
                    refine skipQ (i := 41) (k := 56) rfl (by rfl) (by kernel_rfl) (by kernel_rfl) (by kernel_rfl) (fun _ _ _ h => h) (by rfl) hHeld ?_
                    (try simp only [Act.put, List.setIfInBounds_toArray, List.set_cons_zero, List.set_cons_succ])
                    refine skipQ (i := 42) (k := 57) rfl (by rfl) (by kernel_rfl) (by kernel_rfl) (by kernel_rfl) (fun _ _ _ h => h) (by rfl) hHeld ?_
                    (try simp only [Act.put, List.setIfInBounds_toArray, List.set_cons_zero, List.set_cons_succ])
                    refine skipQ (i := 43) (k := 58) rfl (by rfl) (by kernel_rfl) (by kernel_rfl) (by kernel_rfl) (fun _ _ _ h => h) (by rfl) hHeld ?_
                    (try simp only [Act.put, List.setIfInBounds_toArray, List.set_cons_zero, List.set_cons_succ])
                    refine takeQ (i := 44) (k := 59) (v := .bool false) rfl (by rfl) (by kernel_rfl) (by kernel_rfl) (by kernel_rfl) (fun _ _ _ h => h) (by rfl) ?_ hHeld ?_
                    · intro w1 hSw; go_simp
                    (try simp only [Act.put, List.setIfInBounds_toArray, List.set_cons_zero, List.set_cons_succ])
                    refine takeQ (i := 45) (k := 60) (v := .bool false) rfl (by rfl) (by kernel_rfl) (by kernel_rfl) (by kernel_rfl) (fun _ _ _ h => h) (by rfl) ?_ hHeld ?_
                    · intro w1 hSw; go_simp
                    (try simp only [Act.put, List.setIfInBounds_toArray, List.set_cons_zero, List.set_cons_succ])
                    refine wpAnyH_done (by kernel_rfl) ?_ _
                    exact ⟨⟨congrArg Value.bool (show false = bad by rw [HBAD.out]; simp), hHeld⟩, by simp only [putAll, Act.put, List.setIfInBounds_toArray, List.set_cons_zero, List.set_cons_succ]; rfl⟩
            | succ m =>
              have hm1 : m < xs.length := by rw [HN.out]; omega
              obtain ⟨y, hy⟩ : ∃ y, xs[m] = y := ⟨_, rfl⟩
              replace HBAD : Hid (bad = !(true && Op.bytesLess y.r.toList r.toList && d && e && (o || (!bp && es)))) := Lib.hid (by rw [HBAD.out, HLT1.out m rfl hm1, hy])
              have HY := Lib.hid hy
              obtain ⟨lt, hlt2⟩ : ∃ b, Op.bytesLess y.r.toList r.toList = b := ⟨_, rfl⟩
              rw [hlt2] at HBAD
              have hwr : IntKind.i64.wrap ((m : Int) + 1 - 1) = (m : Int) := by rw [IntWalk.i64_in _ (by omega)]; omega
              have hwr2 : IntKind.i64.wrap (m : Int) = (m : Int) := IntWalk.i64_in _ (by omega)
              have q1 : (0 : Int) ≤ (m : Int) := by omega
              have q2 : (m : Int) < (n : Int) := by omega
              refine takeQ (i := 5) (k := 20) (v := .int .i64 ((m : Int) + 1)) rfl (by rfl) (by kernel_rfl) (by kernel_rfl) (by kernel_rfl) (fun _ _ _ h => h) (by rfl) ?_ hHeld ?_
              · intro w1 hSw; go_simp
              (try simp only [Act.put, List.setIfInBounds_toArray, List.set_cons_zero, List.set_cons_succ])
              refine takeQ (i := 6) (k := 21) (v := .bool true) rfl (by rfl) (by kernel_rfl) (by kernel_rfl) (by kernel_rfl) (fun _ _ _ h => h) (by rfl) ?_ hHeld ?_
              · intro w1 hSw; go_simp
              (try simp only [Act.put, List.setIfInBounds_toArray, List.set_cons_zero, List.set_cons_succ])
              refine takeQ (i := 7) (k := 22) (v := .bool true) rfl (by rfl) (by kernel_rfl) (by kernel_rfl) (by kernel_rfl) (fun _ _ _ h => h) (by rfl) ?_ hHeld ?_
              · intro w1 hSw; go_simp
              (try simp only [Act.put, List.setIfInBounds_toArray, List.set_cons_zero, List.set_cons_succ])
              refine takeQ (i := 8) (k := 23) (v := .slice (some ⟨g, 0, none⟩) n c) rfl (by rfl) (by kernel_rfl) (by kernel_rfl) (by kernel_rfl) (fun _ _ _ h => h) (by rfl) ?_ hHeld ?_
              · intro w1 hSw; go_simp
              (try simp only [Act.put, List.setIfInBounds_toArray, List.set_cons_zero, List.set_cons_succ])
              refine takeQ (i := 9) (k := 24) (v := .int .i64 ((m : Int) + 1)) rfl (by rfl) (by kernel_rfl) (by kernel_rfl) (by kernel_rfl) (fun _ _ _ h => h) (by rfl) ?_ hHeld ?_
              · intro w1 hSw; go_simp
              (try simp only [Act.put, List.setIfInBounds_toArray, List.set_cons_zero, List.set_cons_succ])
              refine takeQ (i := 10) (k := 25) (v := .int .i64 (m : Int)) rfl (by rfl) (by kernel_rfl) (by kernel_rfl) (by kernel_rfl) (fun _ _ _ h => h) (by rfl) ?_ hHeld ?_
              · intro w1 hSw; go_simp; (try (first | exact hwr | exact hwr2 | omega))
              (try simp only [Act.put, List.setIfInBounds_toArray, List.set_cons_zero, List.set_cons_succ])
              refine takeQ (i := 11) (k := 26) (v := .pointer (some ⟨g, m * 4, none⟩)) rfl (by rfl) (by kernel_rfl) (by kernel_rfl) (by kernel_rfl) (fun _ _ _ h => h) (by rfl) ?_ hHeld ?_
              · intro w1 hSw; go_simp
              (try simp only [Act.put, List.setIfInBounds_toArray, List.set_cons_zero, List.set_cons_succ])
              refine takeQ (i := 12) (k := 27) (v := .pointer (some ⟨g, m * 4, none⟩)) rfl (by rfl) (by kernel_rfl) (by kernel_rfl) (by kernel_rfl) (fun _ _ _ h => h) (by rfl) ?_ hHeld ?_
              · intro w1 hSw; go_simp
              (try simp only [Act.put, List.setIfInBounds_toArray, List.set_cons_zero, List.set_cons_succ])
              refine takeQ (i := 13) (k := 28) (v := .string y.r) rfl (by rfl) (by kernel_rfl) (by kernel_rfl) (by kernel_rfl) (fun _ _ _ h => h) (by rfl) ?_ hHeld ?_
              · intro w1 hSw; (obtain ⟨g2, hgg, _, y0, y1, y2, y3⟩ := row_se4 hSw.2.1 hm1); (injection hgg with hgg); (injection hgg with hgg); subst hgg; rw [HY.out] at y0; go_simp
              (try simp only [Act.put, List.setIfInBounds_toArray, List.set_cons_zero, List.set_cons_succ])
              refine takeQ (i := 14) (k := 29) (v := .pointer (some ⟨bx, 0, none⟩)) rfl (by rfl) (by kernel_rfl) (by kernel_rfl) (by kernel_rfl) (fun _ _ _ h => h) (by rfl) ?_ hHeld ?_
              · intro w1 hSw; go_simp
              (try simp only [Act.put, List.setIfInBounds_toArray, List.set_cons_zero, List.set_cons_succ])
              refine takeQ (i := 15) (k := 30) (v := .string r) rfl (by rfl) (by kernel_rfl) (by kernel_rfl) (by kernel_rfl) (fun _ _ _ h => h) (by rfl) ?_ hHeld ?_
              · intro w1 hSw; (obtain ⟨m0, m1, m2, m3⟩ := arrS_cells hSw.1); go_simp
              (try simp only [Act.put, List.setIfInBounds_toArray, List.set_cons_zero, List.set_cons_succ])
              refine takeQ (i := 16) (k := 31) (v := .bool (!lt)) rfl (by rfl) (by kernel_rfl) (by kernel_rfl) (by kernel_rfl) (fun _ _ _ h => h) (by rfl) ?_ hHeld ?_
              · intro w1 hSw; go_simp
              (try simp only [Act.put, List.setIfInBounds_toArray, List.set_cons_zero, List.set_cons_succ])
              cases lt
              · skip
                refine takeQ (i := 17) (k := 32) (v := .bool true) rfl (by rfl) (by kernel_rfl) (by kernel_rfl) (by kernel_rfl) (fun _ _ _ h => h) (by rfl) ?_ hHeld ?_
                · intro w1 hSw; go_simp
                (try simp only [Act.put, List.setIfInBounds_toArray, List.set_cons_zero, List.set_cons_succ])
                refine takeQ (i := 18) (k := 33) (v := .bool true) rfl (by rfl) (by kernel_rfl) (by kernel_rfl) (by kernel_rfl) (fun _ _ _ h => h) (by rfl) ?_ hHeld ?_
                · intro w1 hSw; go_simp
                (try simp only [Act.put, List.setIfInBounds_toArray, List.set_cons_zero, List.set_cons_succ])
                refine takeQ (i := 19) (k := 34) (v := .bool true) rfl (by rfl) (by kernel_rfl) (by kernel_rfl) (by kernel_rfl) (fun _ _ _ h => h) (by rfl) ?_ hHeld ?_
                · intro w1 hSw; go_simp
                (try simp only [Act.put, List.setIfInBounds_toArray, List.set_cons_zero, List.set_cons_succ])
                refine skipQ (i := 20) (k := 35) rfl (by rfl) (by kernel_rfl) (by kernel_rfl) (by kernel_rfl) (fun _ _ _ h => h) (by rfl) hHeld ?_
                (try simp only [Act.put, List.setIfInBounds_toArray, List.set_cons_zero, List.set_cons_succ])
                refine skipQ (i := 21) (k := 36) rfl (by rfl) (by kernel_rfl) (by kernel_rfl) (by kernel_rfl) (fun _ _ _ h => h) (by rfl) hHeld ?_
                (try simp only [Act.put, List.setIfInBounds_toArray, List.set_cons_zero, List.set_cons_succ])
                refine skipQ (i := 22) (k := 37) rfl (by rfl) (by kernel_rfl) (by kernel_rfl) (by kernel_rfl) (fun _ _ _ h => h) (by rfl) hHeld ?_
                (try simp only [Act.put, List.setIfInBounds_toArray, List.set_cons_zero, List.set_cons_succ])
                refine skipQ (i := 23) (k := 38) rfl (by rfl) (by kernel_rfl) (by kernel_rfl) (by kernel_rfl) (fun _ _ _ h => h) (by rfl) hHeld ?_
                (try simp only [Act.put, List.setIfInBounds_toArray, List.set_cons_zero, List.set_cons_succ])
                refine takeQ (i := 24) (k := 39) (v := .bool true) rfl (by rfl) (by kernel_rfl) (by kernel_rfl) (by kernel_rfl) (fun _ _ _ h => h) (by rfl) ?_ hHeld ?_
                · intro w1 hSw; go_simp
                (try simp only [Act.put, List.setIfInBounds_toArray, List.set_cons_zero, List.set_cons_succ])
                refine takeQ (i := 25) (k := 40) (v := .bool true) rfl (by rfl) (by kernel_rfl) (by kernel_rfl) (by kernel_rfl) (fun _ _ _ h => h) (by rfl) ?_ hHeld ?_
                · intro w1 hSw; go_simp
                (try simp only [Act.put, List.setIfInBounds_toArray, List.set_cons_zero, List.set_cons_succ])
                refine skipQ (i := 26) (k := 41) rfl (by rfl) (by kernel_rfl) (by kernel_rfl) (by kernel_rfl) (fun _ _ _ h => h) (by rfl) hHeld ?_
                (try simp only [Act.put, List.setIfInBounds_toArray, List.set_cons_zero, List.set_cons_succ])
                refine skipQ (i := 27) (k := 42) rfl (by rfl) (by kernel_rfl) (by kernel_rfl) (by kernel_rfl) (fun _ _ _ h => h) (by rfl) hHeld ?_
                (try simp only [Act.put, List.setIfInBounds_toArray, List.set_cons_zero, List.set_cons_succ])
                refine skipQ (i := 28) (k := 43) rfl (by rfl) (by kernel_rfl) (by kernel_rfl) (by kernel_rfl) (fun _ _ _ h => h) (by rfl) hHeld ?_
                (try simp only [Act.put, List.setIfInBounds_toArray, List.set_cons_zero, List.set_cons_succ])
                refine skipQ (i := 29) (k := 44) rfl (by rfl) (by kernel_rfl) (by kernel_rfl) (by kernel_rfl) (fun _ _ _ h => h) (by rfl) hHeld ?_
                (try simp only [Act.put, List.setIfInBounds_toArray, List.set_cons_zero, List.set_cons_succ])
                refine takeQ (i := 30) (k := 45) (v := .bool true) rfl (by rfl) (by kernel_rfl) (by kernel_rfl) (by kernel_rfl) (fun _ _ _ h => h) (by rfl) ?_ hHeld ?_
                · intro w1 hSw; go_simp
                (try simp only [Act.put, List.setIfInBounds_toArray, List.set_cons_zero, List.set_cons_succ])
                refine takeQ (i := 31) (k := 46) (v := .bool true) rfl (by rfl) (by kernel_rfl) (by kernel_rfl) (by kernel_rfl) (fun _ _ _ h => h) (by rfl) ?_ hHeld ?_
                · intro w1 hSw; go_simp
                (try simp only [Act.put, List.setIfInBounds_toArray, List.set_cons_zero, List.set_cons_succ])
                refine skipQ (i := 32) (k := 47) rfl (by rfl) (by kernel_rfl) (by kernel_rfl) (by kernel_rfl) (fun _ _ _ h => h) (by rfl) hHeld ?_
                (try simp only [Act.put, List.setIfInBounds_toArray, List.set_cons_zero, List.set_cons_succ])
                refine skipQ (i := 33) (k := 48) rfl (by rfl) (by kernel_rfl) (by kernel_rfl) (by kernel_rfl) (fun _ _ _ h => h) (by rfl) hHeld ?_
                (try simp only [Act.put, List.setIfInBounds_toArray, List.set_cons_zero, List.set_cons_succ])
                refine skipQ (i := 34) (k := 49) rfl (by rfl) (by kernel_rfl) (by kernel_rfl) (by kernel_rfl) (fun _ _ _ h => h) (by rfl) hHeld ?_
                (try simp only [Act.put, List.setIfInBounds_toArray, List.set_cons_zero, List.set_cons_succ])
                refine skipQ (i := 35) (k := 50) rfl (by rfl) (by kernel_rfl) (by kernel_rfl) (by kernel_rfl) (fun _ _ _ h => h) (by rfl) hHeld ?_
                (try simp only [Act.put, List.setIfInBounds_toArray, List.set_cons_zero, List.set_cons_succ])
                refine skipQ (i := 36) (k := 51) rfl (by rfl) (by kernel_rfl) (by kernel_rfl) (by kernel_rfl) (fun _ _ _ h => h) (by rfl) hHeld ?_
                (try simp only [Act.put, List.setIfInBounds_toArray, List.set_cons_zero, List.set_cons_succ])
                refine skipQ (i := 37) (k := 52) rfl (by rfl) (by kernel_rfl) (by kernel_rfl) (by kernel_rfl) (fun _ _ _ h => h) (by rfl) hHeld ?_
                (try simp only [Act.put, List.setIfInBounds_toArray, List.set_cons_zero, List.set_cons_succ])
                refine skipQ (i := 38) (k := 53) rfl (by rfl) (by kernel_rfl) (by kernel_rfl) (by kernel_rfl) (fun _ _ _ h => h) (by rfl) hHeld ?_
                (try simp only [Act.put, List.setIfInBounds_toArray, List.set_cons_zero, List.set_cons_succ])
                refine skipQ (i := 39) (k := 54) rfl (by rfl) (by kernel_rfl) (by kernel_rfl) (by kernel_rfl) (fun _ _ _ h => h) (by rfl) hHeld ?_
                (try simp only [Act.put, List.setIfInBounds_toArray, List.set_cons_zero, List.set_cons_succ])
                refine skipQ (i := 40) (k := 55) rfl (by rfl) (by kernel_rfl) (by kernel_rfl) (by kernel_rfl) (fun _ _ _ h => h) (by rfl) hHeld ?_
                (try simp only [Act.put, List.setIfInBounds_toArray, List.set_cons_zero, List.set_cons_succ])
                refine skipQ (i := 41) (k := 56) rfl (by rfl) (by kernel_rfl) (by kernel_rfl) (by kernel_rfl) (fun _ _ _ h => h) (by rfl) hHeld ?_
                (try simp only [Act.put, List.setIfInBounds_toArray, List.set_cons_zero, List.set_cons_succ])
                refine skipQ (i := 42) (k := 57) rfl (by rfl) (by kernel_rfl) (by kernel_rfl) (by kernel_rfl) (fun _ _ _ h => h) (by rfl) hHeld ?_
                (try simp only [Act.put, List.setIfInBounds_toArray, List.set_cons_zero, List.set_cons_succ])
                refine skipQ (i := 43) (k := 58) rfl (by rfl) (by kernel_rfl) (by kernel_rfl) (by kernel_rfl) (fun _ _ _ h => h) (by rfl) hHeld ?_
                (try simp only [Act.put, List.setIfInBounds_toArray, List.set_cons_zero, List.set_cons_succ])
                refine skipQ (i := 44) (k := 59) rfl (by rfl) (by kernel_rfl) (by kernel_rfl) (by kernel_rfl) (fun _ _ _ h => h) (by rfl) hHeld ?_
                (try simp only [Act.put, List.setIfInBounds_toArray, List.set_cons_zero, List.set_cons_succ])
                refine takeQ (i := 45) (k := 60) (v := .bool true) rfl (by rfl) (by kernel_rfl) (by kernel_rfl) (by kernel_rfl) (fun _ _ _ h => h) (by rfl) ?_ hHeld ?_
                · intro w1 hSw; go_simp
                (try simp only [Act.put, List.setIfInBounds_toArray, List.set_cons_zero, List.set_cons_succ])
                refine wpAnyH_done (by kernel_rfl) ?_ _
                exact ⟨⟨congrArg Value.bool (show true = bad by rw [HBAD.out]; simp), hHeld⟩, by simp only [putAll, Act.put, List.setIfInBounds_toArray, List.set_cons_zero, List.set_cons_succ]; rfl⟩
              · skip
                refine takeQ (i := 17) (k := 32) (v := .bool false) rfl (by rfl) (by kernel_rfl) (by kernel_rfl) (by kernel_rfl) (fun _ _ _ h => h) (by rfl) ?_ hHeld ?_
                · intro w1 hSw; go_simp
                (try simp only [Act.put, List.setIfInBounds_toArray, List.set_cons_zero, List.set_cons_succ])
                refine takeQ (i := 18) (k := 33) (v := .bool false) rfl (by rfl) (by kernel_rfl) (by kernel_rfl) (by kernel_rfl) (fun _ _ _ h => h) (by rfl) ?_ hHeld ?_
                · intro w1 hSw; go_simp
                (try simp only [Act.put, List.setIfInBounds_toArray, List.set_cons_zero, List.set_cons_succ])
                refine takeQ (i := 19) (k := 34) (v := .bool false) rfl (by rfl) (by kernel_rfl) (by kernel_rfl) (by kernel_rfl) (fun _ _ _ h => h) (by rfl) ?_ hHeld ?_
                · intro w1 hSw; go_simp
                (try simp only [Act.put, List.setIfInBounds_toArray, List.set_cons_zero, List.set_cons_succ])
                refine takeQ (i := 20) (k := 35) (v := .pointer (some ⟨bx, 2, none⟩)) rfl (by rfl) (by kernel_rfl) (by kernel_rfl) (by kernel_rfl) (fun _ _ _ h => h) (by rfl) ?_ hHeld ?_
                · intro w1 hSw; go_simp
                (try simp only [Act.put, List.setIfInBounds_toArray, List.set_cons_zero, List.set_cons_succ])
                refine takeQ (i := 21) (k := 36) (v := .int .i64 p) rfl (by rfl) (by kernel_rfl) (by kernel_rfl) (by kernel_rfl) (fun _ _ _ h => h) (by rfl) ?_ hHeld ?_
                · intro w1 hSw; (obtain ⟨m0, m1, m2, m3⟩ := arrS_cells hSw.1); go_simp
                (try simp only [Act.put, List.setIfInBounds_toArray, List.set_cons_zero, List.set_cons_succ])
                refine wpAnyH_ready (rs := [22]) (by kernel_rfl) (by simp) ?_
                refine AllReadyH.cons rfl (fun K hK => ?_) AllReadyH.nil
                rw [if_pos (by rfl)]
                go_simp
                go_fit (jD _)
                rintro e0 wz ⟨rfl, hwz⟩
                subst hwz
                refine hK.out _ _ hHeld (fun hHeld => ?_)
                clear hK K
                (try simp only [Act.put, List.setIfInBounds_toArray, List.set_cons_zero, List.set_cons_succ])
                cases d
                · skip
                  refine takeQ (i := 23) (k := 38) (v := .bool true) rfl (by rfl) (by kernel_rfl) (by kernel_rfl) (by kernel_rfl) (fun _ _ _ h => h) (by rfl) ?_ hHeld ?_
                  · intro w1 hSw; go_simp
                  (try simp only [Act.put, List.setIfInBounds_toArray, List.set_cons_zero, List.set_cons_succ])
                  refine takeQ (i := 24) (k := 39) (v := .bool true) rfl (by rfl) (by kernel_rfl) (by kernel_rfl) (by kernel_rfl) (fun _ _ _ h => h) (by rfl) ?_ hHeld ?_
                  · intro w1 hSw; go_simp
                  (try simp only [Act.put, List.setIfInBounds_toArray, List.set_cons_zero, List.set_cons_succ])
                  refine takeQ (i := 25) (k := 40) (v := .bool true) rfl (by rfl) (by kernel_rfl) (by kernel_rfl) (by kernel_rfl) (fun _ _ _ h => h) (by rfl) ?_ hHeld ?_
                  · intro w1 hSw; go_simp
                  (try simp only [Act.put, List.setIfInBounds_toArray, List.set_cons_zero, List.set_cons_succ])
                  refine skipQ (i := 26) (k := 41) rfl (by rfl) (by kernel_rfl) (by kernel_rfl) (by kernel_rfl) (fun _ _ _ h => h) (by rfl) hHeld ?_
                  (try simp only [Act.put, List.setIfInBounds_toArray, List.set_cons_zero, List.set_cons_succ])
                  refine skipQ (i := 27) (k := 42) rfl (by rfl) (by kernel_rfl) (by kernel_rfl) (by kernel_rfl) (fun _ _ _ h => h) (by rfl) hHeld ?_
                  (try simp only [Act.put, List.setIfInBounds_toArray, List.set_cons_zero, List.set_cons_succ])
                  refine skipQ (i := 28) (k := 43) rfl (by rfl) (by kernel_rfl) (by kernel_rfl) (by kernel_rfl) (fun _ _ _ h => h) (by rfl) hHeld ?_
                  (try simp only [Act.put, List.setIfInBounds_toArray, List.set_cons_zero, List.set_cons_succ])
                  refine skipQ (i := 29) (k := 44) rfl (by rfl) (by kernel_rfl) (by kernel_rfl) (by kernel_rfl) (fun _ _ _ h => h) (by rfl) hHeld ?_
                  (try simp only [Act.put, List.setIfInBounds_toArray, List.set_cons_zero, List.set_cons_succ])
                  refine takeQ (i := 30) (k := 45) (v := .bool true) rfl (by rfl) (by kernel_rfl) (by kernel_rfl) (by kernel_rfl) (fun _ _ _ h => h) (by rfl) ?_ hHeld ?_
                  · intro w1 hSw; go_simp
                  (try simp only [Act.put, List.setIfInBounds_toArray, List.set_cons_zero, List.set_cons_succ])
                  refine takeQ (i := 31) (k := 46) (v := .bool true) rfl (by rfl) (by kernel_rfl) (by kernel_rfl) (by kernel_rfl) (fun _ _ _ h => h) (by rfl) ?_ hHeld ?_
                  · intro w1 hSw; go_simp
                  (try simp only [Act.put, List.setIfInBounds_toArray, List.set_cons_zero, List.set_cons_succ])
                  refine skipQ (i := 32) (k := 47) rfl (by rfl) (by kernel_rfl) (by kernel_rfl) (by kernel_rfl) (fun _ _ _ h => h) (by rfl) hHeld ?_
                  (try simp only [Act.put, List.setIfInBounds_toArray, List.set_cons_zero, List.set_cons_succ])
                  refine skipQ (i := 33) (k := 48) rfl (by rfl) (by kernel_rfl) (by kernel_rfl) (by kernel_rfl) (fun _ _ _ h => h) (by rfl) hHeld ?_
                  (try simp only [Act.put, List.setIfInBounds_toArray, List.set_cons_zero, List.set_cons_succ])
                  refine skipQ (i := 34) (k := 49) rfl (by rfl) (by kernel_rfl) (by kernel_rfl) (by kernel_rfl) (fun _ _ _ h => h) (by rfl) hHeld ?_
                  (try simp only [Act.put, List.setIfInBounds_toArray, List.set_cons_zero, List.set_cons_succ])
                  refine skipQ (i := 35) (k := 50) rfl (by rfl) (by kernel_rfl) (by kernel_rfl) (by kernel_rfl) (fun _ _ _ h => h) (by rfl) hHeld ?_
                  (try simp only [Act.put, List.setIfInBounds_toArray, List.set_cons_zero, List.set_cons_succ])
                  refine skipQ (i := 36) (k := 51) rfl (by rfl) (by kernel_rfl) (by kernel_rfl) (by kernel_rfl) (fun _ _ _ h => h) (by rfl) hHeld ?_
                  (try simp only [Act.put, List.setIfInBounds_toArray, List.set_cons_zero, List.set_cons_succ])
                  refine skipQ (i := 37) (k := 52) rfl (by rfl) (by kernel_rfl) (by kernel_rfl) (by kernel_rfl) (fun _ _ _ h => h) (by rfl) hHeld ?_
                  (try simp only [Act.put, List.setIfInBounds_toArray, List.set_cons_zero, List.set_cons_succ])
                  refine skipQ (i := 38) (k := 53) rfl (by rfl) (by kernel_rfl) (by kernel_rfl) (by kernel_rfl) (fun _ _ _ h => h) (by rfl) hHeld ?_
                  (try simp only [Act.put, List.setIfInBounds_toArray, List.set_cons_zero, List.set_cons_succ])
                  refine skipQ (i := 39) (k := 54) rfl (by rfl) (by kernel_rfl) (by kernel_rfl) (by kernel_rfl) (fun _ _ _ h => h) (by rfl) hHeld ?_
                  (try simp only [Act.put, List.setIfInBounds_toArray, List.set_cons_zero, List.set_cons_succ])
                  refine skipQ (i := 40) (k := 55) rfl (by rfl) (by kernel_rfl) (by kernel_rfl) (by kernel_rfl) (fun _ _ _ h => h) (by rfl) hHeld ?_
                  (try simp only [Act.put, List.setIfInBounds_toArray, List.set_cons_zero, List.set_cons_succ])
                  refine skipQ (i := 41) (k := 56) rfl (by rfl) (by kernel_rfl) (by kernel_rfl) (by kernel_rfl) (fun _ _ _ h => h) (by rfl) hHeld ?_
                  (try simp only [Act.put, List.setIfInBounds_toArray, List.set_cons_zero, List.set_cons_succ])
                  refine skipQ (i := 42) (k := 57) rfl (by rfl) (by kernel_rfl) (by kernel_rfl) (by kernel_rfl) (fun _ _ _ h => h) (by rfl) hHeld ?_
                  (try simp only [Act.put, List.setIfInBounds_toArray, List.set_cons_zero, List.set_cons_succ])
                  refine skipQ (i := 43) (k := 58) rfl (by rfl) (by kernel_rfl) (by kernel_rfl) (by kernel_rfl) (fun _ _ _ h => h) (by rfl) hHeld ?_
                  (try simp only [Act.put, List.setIfInBounds_toArray, List.set_cons_zero, List.set_cons_succ])
                  refine skipQ (i := 44) (k := 59) rfl (by rfl) (by kernel_rfl) (by kernel_rfl) (by kernel_rfl) (fun _ _ _ h => h) (by rfl) hHeld ?_
                  (try simp only [Act.put, List.setIfInBounds_toArray, List.set_cons_zero, List.set_cons_succ])
                  refine takeQ (i := 45) (k := 60) (v := .bool true) rfl (by rfl) (by kernel_rfl) (by kernel_rfl) (by kernel_rfl) (fun _ _ _ h => h) (by rfl) ?_ hHeld ?_
                  · intro w1 hSw; go_simp
                  (try simp only [Act.put, List.setIfInBounds_toArray, List.set_cons_zero, List.set_cons_succ])
                  refine wpAnyH_done (by kernel_rfl) ?_ _
                  exact ⟨⟨congrArg Value.bool (show true = bad by rw [HBAD.out]; simp), hHeld⟩, by simp only [putAll, Act.put, List.setIfInBounds_toArray, List.set_cons_zero, List.set_cons_succ]; rfl⟩
                · skip
                  refine takeQ (i := 23) (k := 38) (v := .bool false) rfl (by rfl) (by kernel_rfl) (by kernel_rfl) (by kernel_rfl) (fun _ _ _ h => h) (by rfl) ?_ hHeld ?_
                  · intro w1 hSw; go_simp
                  (try simp only [Act.put, List.setIfInBounds_toArray, List.set_cons_zero, List.set_cons_succ])
                  refine takeQ (i := 24) (k := 39) (v := .bool false) rfl (by rfl) (by kernel_rfl) (by kernel_rfl) (by kernel_rfl) (fun _ _ _ h => h) (by rfl) ?_ hHeld ?_
                  · intro w1 hSw; go_simp
                  (try simp only [Act.put, List.setIfInBounds_toArray, List.set_cons_zero, List.set_cons_succ])
                  refine takeQ (i := 25) (k := 40) (v := .bool false) rfl (by rfl) (by kernel_rfl) (by kernel_rfl) (by kernel_rfl) (fun _ _ _ h => h) (by rfl) ?_ hHeld ?_
                  · intro w1 hSw; go_simp
                  (try simp only [Act.put, List.setIfInBounds_toArray, List.set_cons_zero, List.set_cons_succ])
                  refine takeQ (i := 26) (k := 41) (v := .pointer (some ⟨bx, 3, none⟩)) rfl (by rfl) (by kernel_rfl) (by kernel_rfl) (by kernel_rfl) (fun _ _ _ h => h) (by rfl) ?_ hHeld ?_
                  · intro w1 hSw; go_simp
                  (try simp only [Act.put, List.setIfInBounds_toArray, List.set_cons_zero, List.set_cons_succ])
                  refine takeQ (i := 27) (k := 42) (v := .string s) rfl (by rfl) (by kernel_rfl) (by kernel_rfl) (by kernel_rfl) (fun _ _ _ h => h) (by rfl) ?_ hHeld ?_
                  · intro w1 hSw; (obtain ⟨m0, m1, m2, m3⟩ := arrS_cells hSw.1); go_simp
                  (try simp only [Act.put, List.setIfInBounds_toArray, List.set_cons_zero, List.set_cons_succ])
                  refine wpAnyH_ready (rs := [28]) (by kernel_rfl) (by simp) ?_
                  refine AllReadyH.cons rfl (fun K hK => ?_) AllReadyH.nil
                  rw [if_pos (by rfl)]
                  go_simp
                  go_fit (jE _)
                  rintro e0 wz ⟨rfl, hbz⟩
                  refine hK.out _ _ ⟨arrS_on hHeld.1 hbz, hHeld.2.1.on hbz, hHeld.2.2.trans (hbz.mono hHeld.2.2.size)⟩ (fun hHeld => ?_)
                  clear hK K
                  (try simp only [Act.put, List.setIfInBounds_toArray, List.set_cons_zero, List.set_cons_succ])
                  cases e
                  · skip
                    refine takeQ (i := 29) (k := 44) (v := .bool true) rfl (by rfl) (by kernel_rfl) (by kernel_rfl) (by kernel_rfl) (fun _ _ _ h => h) (by rfl) ?_ hHeld ?_
                    · intro w1 hSw; go_simp
                    (try simp only [Act.put, List.setIfInBounds_toArray, List.set_cons_zero, List.set_cons_succ])
                    refine takeQ (i := 30) (k := 45) (v := .bool true) rfl (by rfl) (by kernel_rfl) (by kernel_rfl) (by kernel_rfl) (fun _ _ _ h => h) (by rfl) ?_ hHeld ?_
                    · intro w1 hSw; go_simp
                    (try simp only [Act.put, List.setIfInBounds_toArray, List.set_cons_zero, List.set_cons_succ])
                    refine takeQ (i := 31) (k := 46) (v := .bool true) rfl (by rfl) (by kernel_rfl) (by kernel_rfl) (by kernel_rfl) (fun _ _ _ h => h) (by rfl) ?_ hHeld ?_
                    · intro w1 hSw; go_simp
                    (try simp only [Act.put, List.setIfInBounds_toArray, List.set_cons_zero, List.set_cons_succ])
                    refine skipQ (i := 32) (k := 47) rfl (by rfl) (by kernel_rfl) (by kernel_rfl) (by kernel_rfl) (fun _ _ _ h => h) (by rfl) hHeld ?_
                    (try simp only [Act.put, List.setIfInBounds_toArray, List.set_cons_zero, List.set_cons_succ])
                    refine skipQ (i := 33) (k := 48) rfl (by rfl) (by kernel_rfl) (by kernel_rfl) (by kernel_rfl) (fun _ _ _ h => h) (by rfl) hHeld ?_
                    (try simp only [Act.put, List.setIfInBounds_toArray, List.set_cons_zero, List.set_cons_succ])
                    refine skipQ (i := 34) (k := 49) rfl (by rfl) (by kernel_rfl) (by kernel_rfl) (by kernel_rfl) (fun _ _ _ h => h) (by rfl) hHeld ?_
                    (try simp only [Act.put, List.setIfInBounds_toArray, List.set_cons_zero, List.set_cons_succ])
                    refine skipQ (i := 35) (k := 50) rfl (by rfl) (by kernel_rfl) (by kernel_rfl) (by kernel_rfl) (fun _ _ _ h => h) (by rfl) hHeld ?_
                    (try simp only [Act.put, List.setIfInBounds_toArray, List.set_cons_zero, List.set_cons_succ])
                    refine skipQ (i := 36) (k := 51) rfl (by rfl) (by kernel_rfl) (by kernel_rfl) (by kernel_rfl) (fun _ _ _ h => h) (by rfl) hHeld ?_
                    (try simp only [Act.put, List.setIfInBounds_toArray, List.set_cons_zero, List.set_cons_succ])
                    refine skipQ (i := 37) (k := 52) rfl (by rfl) (by kernel_rfl) (by kernel_rfl) (by kernel_rfl) (fun _ _ _ h => h) (by rfl) hHeld ?_
                    (try simp only [Act.put, List.setIfInBounds_toArray, List.set_cons_zero, List.set_cons_succ])
                    refine skipQ (i := 38) (k := 53) rfl (by rfl) (by kernel_rfl) (by kernel_rfl) (by kernel_rfl) (fun _ _ _ h => h) (by rfl) hHeld ?_
                    (try simp only [Act.put, List.setIfInBounds_toArray, List.set_cons_zero, List.set_cons_succ])
                    refine skipQ (i := 39) (k := 54) rfl (by rfl) (by kernel_rfl) (by kernel_rfl) (by kernel_rfl) (fun _ _ _ h => h) (by rfl) hHeld ?_
                    (try simp only [Act.put, List.setIfInBounds_toArray, List.set_cons_zero, List.set_cons_succ])
                    refine skipQ (i := 40) (k := 55) rfl (by rfl) (by kernel_rfl) (by kernel_rfl) (by kernel_rfl) (fun _ _ _ h => h) (by rfl) hHeld ?_
                    (try simp only [Act.put, List.setIfInBounds_toArray, List.set_cons_zero, List.set_cons_succ])
                    refine skipQ (i := 41) (k := 56) rfl (by rfl) (by kernel_rfl) (by kernel_rfl) (by kernel_rfl) (fun _ _ _ h => h) (by rfl) hHeld ?_
                    (try simp only [Act.put, List.setIfInBounds_toArray, List.set_cons_zero, List.set_cons_succ])
                    refine skipQ (i := 42) (k := 57) rfl (by rfl) (by kernel_rfl) (by kernel_rfl) (by kernel_rfl) (fun _ _ _ h => h) (by rfl) hHeld ?_
                    (try simp only [Act.put, List.setIfInBounds_toArray, List.set_cons_zero, List.set_cons_succ])
                    refine skipQ (i := 43) (k := 58) rfl (by rfl) (by kernel_rfl) (by kernel_rfl) (by kernel_rfl) (fun _ _ _ h => h) (by rfl) hHeld ?_
                    (try simp only [Act.put, List.setIfInBounds_toArray, List.set_cons_zero, List.set_cons_succ])
                    refine skipQ (i := 44) (k := 59) rfl (by rfl) (by kernel_rfl) (by kernel_rfl) (by kernel_rfl) (fun _ _ _ h => h) (by rfl) hHeld ?_
                    (try simp only [Act.put, List.setIfInBounds_toArray, List.set_cons_zero, List.set_cons_succ])
                    refine takeQ (i := 45) (k := 60) (v := .bool true) rfl (by rfl) (by kernel_rfl) (by kernel_rfl) (by kernel_rfl) (fun _ _ _ h => h) (by rfl) ?_ hHeld ?_
                    · intro w1 hSw; go_simp
                    (try simp only [Act.put, List.setIfInBounds_toArray, List.set_cons_zero, List.set_cons_succ])
                    refine wpAnyH_done (by kernel_rfl) ?_ _
                    exact ⟨⟨congrArg Value.bool (show true = bad by rw [HBAD.out]; simp), hHeld⟩, by simp only [putAll, Act.put, List.setIfInBounds_toArray, List.set_cons_zero, List.set_cons_succ]; rfl⟩
                  · skip
                    refine takeQ (i := 29) (k := 44) (v := .bool false) rfl (by rfl) (by kernel_rfl) (by kernel_rfl) (by kernel_rfl) (fun _ _ _ h => h) (by rfl) ?_ hHeld ?_
                    · intro w1 hSw; go_simp
                    (try simp only [Act.put, List.setIfInBounds_toArray, List.set_cons_zero, List.set_cons_succ])
                    refine takeQ (i := 30) (k := 45) (v := .bool false) rfl (by rfl) (by kernel_rfl) (by kernel_rfl) (by kernel_rfl) (fun _ _ _ h => h) (by rfl) ?_ hHeld ?_
                    · intro w1 hSw; go_simp
                    (try simp only [Act.put, List.setIfInBounds_toArray, List.set_cons_zero, List.set_cons_succ])
                    refine takeQ (i := 31) (k := 46) (v := .bool false) rfl (by rfl) (by kernel_rfl) (by kernel_rfl) (by kernel_rfl) (fun _ _ _ h => h) (by rfl) ?_ hHeld ?_
                    · intro w1 hSw; go_simp
                    (try simp only [Act.put, List.setIfInBounds_toArray, List.set_cons_zero, List.set_cons_succ])
                    refine takeQ (i := 32) (k := 47) (v := .pointer (some ⟨bx, 1, none⟩)) rfl (by rfl) (by kernel_rfl) (by kernel_rfl) (by kernel_rfl) (fun _ _ _ h => h) (by rfl) ?_ hHeld ?_
                    · intro w1 hSw; go_simp
                    (try simp only [Act.put, List.setIfInBounds_toArray, List.set_cons_zero, List.set_cons_succ])
                    refine takeQ (i := 33) (k := 48) (v := .bool o) rfl (by rfl) (by kernel_rfl) (by kernel_rfl) (by kernel_rfl) (fun _ _ _ h => h) (by rfl) ?_ hHeld ?_
                    · intro w1 hSw; (obtain ⟨m0, m1, m2, m3⟩ := arrS_cells hSw.1); go_simp
                    (try simp only [Act.put, List.setIfInBounds_toArray, List.set_cons_zero, List.set_cons_succ])
                    cases o
                    · skip
                      refine takeQ (i := 34) (k := 49) (v := .bool true) rfl (by rfl) (by kernel_rfl) (by kernel_rfl) (by kernel_rfl) (fun _ _ _ h => h) (by rfl) ?_ hHeld ?_
                      · intro w1 hSw; go_simp
                      (try simp only [Act.put, List.setIfInBounds_toArray, List.set_cons_zero, List.set_cons_succ])
                      refine takeQ (i := 35) (k := 50) (v := .bool true) rfl (by rfl) (by kernel_rfl) (by kernel_rfl) (by kernel_rfl) (fun _ _ _ h => h) (by rfl) ?_ hHeld ?_
                      · intro w1 hSw; go_simp
                      (try simp only [Act.put, List.setIfInBounds_toArray, List.set_cons_zero, List.set_cons_succ])
                      refine takeQ (i := 36) (k := 51) (v := .pointer (some ⟨bx, 2, none⟩)) rfl (by rfl) (by kernel_rfl) (by kernel_rfl) (by kernel_rfl) (fun _ _ _ h => h) (by rfl) ?_ hHeld ?_
                      · intro w1 hSw; go_simp
                      (try simp only [Act.put, List.setIfInBounds_toArray, List.set_cons_zero, List.set_cons_succ])
                      refine takeQ (i := 37) (k := 52) (v := .int .i64 p) rfl (by rfl) (by kernel_rfl) (by kernel_rfl) (by kernel_rfl) (fun _ _ _ h => h) (by rfl) ?_ hHeld ?_
                      · intro w1 hSw; (obtain ⟨m0, m1, m2, m3⟩ := arrS_cells hSw.1); go_simp
                      (try simp only [Act.put, List.setIfInBounds_toArray, List.set_cons_zero, List.set_cons_succ])
                      refine takeQ (i := 38) (k := 53) (v := .bool bp) rfl (by rfl) (by kernel_rfl) (by kernel_rfl) (by kernel_rfl) (fun _ _ _ h => h) (by rfl) ?_ hHeld ?_
                      · intro w1 hSw; go_simp
                      (try simp only [Act.put, List.setIfInBounds_toArray, List.set_cons_zero, List.set_cons_succ])
                      cases bp
                      · skip
                        refine takeQ (i := 39) (k := 54) (v := .bool false) rfl (by rfl) (by kernel_rfl) (by kernel_rfl) (by kernel_rfl) (fun _ _ _ h => h) (by rfl) ?_ hHeld ?_
                        · intro w1 hSw; go_simp
                        (try simp only [Act.put, List.setIfInBounds_toArray, List.set_cons_zero, List.set_cons_succ])
                        refine takeQ (i := 40) (k := 55) (v := .pointer (some ⟨bx, 3, none⟩)) rfl (by rfl) (by kernel_rfl) (by kernel_rfl) (by kernel_rfl) (fun _ _ _ h => h) (by rfl) ?_ hHeld ?_
                        · intro w1 hSw; go_simp
                        (try simp only [Act.put, List.setIfInBounds_toArray, List.set_cons_zero, List.set_cons_succ])
                        refine takeQ (i := 41) (k := 56) (v := .string s) rfl (by rfl) (by kernel_rfl) (by kernel_rfl) (by kernel_rfl) (fun _ _ _ h => h) (by rfl) ?_ hHeld ?_
                        · intro w1 hSw; (obtain ⟨m0, m1, m2, m3⟩ := arrS_cells hSw.1); go_simp
                        (try simp only [Act.put, List.setIfInBounds_toArray, List.set_cons_zero, List.set_cons_succ])
                        refine takeQ (i := 42) (k := 57) (v := .bool (!es)) rfl (by rfl) (by kernel_rfl) (by kernel_rfl) (by kernel_rfl) (fun _ _ _ h => h) (by rfl) ?_ hHeld ?_
                        · intro w1 hSw; go_simp
                        (try simp only [Act.put, List.setIfInBounds_toArray, List.set_cons_zero, List.set_cons_succ])
                        cases es
                        · skip
                          refine takeQ (i := 43) (k := 58) (v := .bool true) rfl (by rfl) (by kernel_rfl) (by kernel_rfl) (by kernel_rfl) (fun _ _ _ h => h) (by rfl) ?_ hHeld ?_
                          · intro w1 hSw; go_simp
                          (try simp only [Act.put, List.setIfInBounds_toArray, List.set_cons_zero, List.set_cons_succ])
                          refine takeQ (i := 44) (k := 59) (v := .bool true) rfl (by rfl) (by kernel_rfl) (by kernel_rfl) (by kernel_rfl) (fun _ _ _ h => h) (by rfl) ?_ hHeld ?_
                          · intro w1 hSw; go_simp
                          (try simp only [Act.put, List.setIfInBounds_toArray, List.set_cons_zero, List.set_cons_succ])
                          refine takeQ (i := 45) (k := 60) (v := .bool true) rfl (by rfl) (by kernel_rfl) (by kernel_rfl) (by kernel_rfl) (fun _ _ _ h => h) (by rfl) ?_ hHeld ?_
                          · intro w1 hSw; go_simp
                          (try simp only [Act.put, List.setIfInBounds_toArray, List.set_cons_zero, List.set_cons_succ])
                          refine wpAnyH_done (by kernel_rfl) ?_ _
                          exact ⟨⟨congrArg Value.bool (show true = bad by rw [HBAD.out]; simp), hHeld⟩, by simp only [putAll, Act.put, List.setIfInBounds_toArray, List.set_cons_zero, List.set_cons_succ]; rfl⟩
                        · skip
                          refine takeQ (i := 43) (k := 58) (v := .bool false) rfl (by rfl) (by kernel_rfl) (by kernel_rfl) (by kernel_rfl) (fun _ _ _ h => h) (by rfl) ?_ hHeld ?_
                          · intro w1 hSw; go_simp
                          (try simp only [Act.put, List.setIfInBounds_toArray, List.set_cons_zero, List.set_cons_succ])
                          refine takeQ (i := 44) (k := 59) (v := .bool false) rfl (by rfl) (by kernel_rfl) (by kernel_rfl) (by kernel_rfl) (fun _ _ _ h => h) (by rfl) ?_ hHeld ?_
                          · intro w1 hSw; go_simp
                          (try simp only [Act.put, List.setIfInBounds_toArray, List.set_cons_zero, List.set_cons_succ])
                          refine takeQ (i := 45) (k := 60) (v := .bool false) rfl (by rfl) (by kernel_rfl) (by kernel_rfl) (by kernel_rfl) (fun _ _ _ h => h) (by rfl) ?_ hHeld ?_
                          · intro w1 hSw; go_simp
                          (try simp only [Act.put, List.setIfInBounds_toArray, List.set_cons_zero, List.set_cons_succ])
                          refine wpAnyH_done (by kernel_rfl) ?_ _
                          exact ⟨⟨congrArg Value.bool (show false = bad by rw [HBAD.out]; simp), hHeld⟩, by simp only [putAll, Act.put, List.setIfInBounds_toArray, List.set_cons_zero, List.set_cons_succ]; rfl⟩
                      · skip
                        refine takeQ (i := 39) (k := 54) (v := .bool true) rfl (by rfl) (by kernel_rfl) (by kernel_rfl) (by kernel_rfl) (fun _ _ _ h => h) (by rfl) ?_ hHeld ?_
                        · intro w1 hSw; go_simp
                        (try simp only [Act.put, List.setIfInBounds_toArray, List.set_cons_zero, List.set_cons_succ])
                        refine skipQ (i := 40) (k := 55) rfl (by rfl) (by kernel_rfl) (by kernel_rfl) (by kernel_rfl) (fun _ _ _ h => h) (by rfl) hHeld ?_
                        (try simp only [Act.put, List.setIfInBounds_toArray, List.set_cons_zero, List.set_cons_succ])
                        refine skipQ (i := 41) (k := 56) rfl (by rfl) (by kernel_rfl) (by kernel_rfl) (by kernel_rfl) (fun _ _ _ h => h) (by rfl) hHeld ?_
                        (try simp only [Act.put, List.setIfInBounds_toArray, List.set_cons_zero, List.set_cons_succ])
                        refine skipQ (i := 42) (k := 57) rfl (by rfl) (by kernel_rfl) (by kernel_rfl) (by kernel_rfl) (fun _ _ _ h => h) (by rfl) hHeld ?_
                        (try simp only [Act.put, List.setIfInBounds_toArray, List.set_cons_zero, List.set_cons_succ])
                        refine takeQ (i := 43) (k := 58) (v := .bool true) rfl (by rfl) (by kernel_rfl) (by kernel_rfl) (by kernel_rfl) (fun _ _ _ h => h) (by rfl) ?_ hHeld ?_
                        · intro w1 hSw; go_simp
                        (try simp only [Act.put, List.setIfInBounds_toArray, List.set_cons_zero, List.set_cons_succ])
                        refine takeQ (i := 44) (k := 59) (v := .bool true) rfl (by rfl) (by kernel_rfl) (by kernel_rfl) (by kernel_rfl) (fun _ _ _ h => h) (by rfl) ?_ hHeld ?_
                        · intro w1 hSw; go_simp
                        (try simp only [Act.put, List.setIfInBounds_toArray, List.set_cons_zero, List.set_cons_succ])
                        refine takeQ (i := 45) (k := 60) (v := .bool true) rfl (by rfl) (by kernel_rfl) (by kernel_rfl) (by kernel_rfl) (fun _ _ _ h => h) (by rfl) ?_ hHeld ?_
                        · intro w1 hSw; go_simp
                        (try simp only [Act.put, List.setIfInBounds_toArray, List.set_cons_zero, List.set_cons_succ])
                        refine wpAnyH_done (by kernel_rfl) ?_ _
                        exact ⟨⟨congrArg Value.bool (show true = bad by rw [HBAD.out]; simp), hHeld⟩, by simp only [putAll, Act.put, List.setIfInBounds_toArray, List.set_cons_zero, List.set_cons_succ]; rfl⟩
                    · skip
                      refine takeQ (i := 34) (k := 49) (v := .bool false) rfl (by rfl) (by kernel_rfl) (by kernel_rfl) (by kernel_rfl) (fun _ _ _ h => h) (by rfl) ?_ hHeld ?_
                      · intro w1 hSw; go_simp
                      (try simp only [Act.put, List.setIfInBounds_toArray, List.set_cons_zero, List.set_cons_succ])
                      refine takeQ (i := 35) (k := 50) (v := .bool false) rfl (by rfl) (by kernel_rfl) (by kernel_rfl) (by kernel_rfl) (fun _ _ _ h => h) (by rfl) ?_ hHeld ?_
                      · intro w1 hSw; go_simp
                      (try simp only [Act.put, List.setIfInBounds_toArray, List.set_cons_zero, List.set_cons_succ])
                      refine skipQ (i := 36) (k := 51) rfl (by rfl) (by kernel_rfl) (by kernel_rfl) (by kernel_rfl) (fun _ _ _ h => h) (by rfl) hHeld ?_
                      (try simp only [Act.put, List.setIfInBounds_toArray, List.set_cons_zero, List.set_cons_succ])
                      refine skipQ (i := 37) (k := 52) rfl (by rfl) (by kernel_rfl) (by kernel_rfl) (by kernel_rfl) (fun _ _ _ h => h) (by rfl) hHeld ?_
                      (try simp only [Act.put, List.setIfInBounds_toArray, List.set_cons_zero, List.set_cons_succ])
                      refine skipQ (i := 38) (k := 53) rfl (by rfl) (by kernel_rfl) (by kernel_rfl) (by kernel_rfl) (fun _ _ _ h => h) (by rfl) hHeld ?_
                      (try simp only [Act.put, List.setIfInBounds_toArray, List.set_cons_zero, List.set_cons_succ])
                      refine skipQ (i := 39) (k := 54) rfl (by rfl) (by kernel_rfl) (by kernel_rfl) (by kernel_rfl) (fun _ _ _ h => h) (by rfl) hHeld ?_
                      (try simp only [Act.put, List.setIfInBounds_toArray, List.set_cons_zero, List.set_cons_succ])
                      refine skipQ (i := 40) (k := 55) rfl (by rfl) (by kernel_rfl) (by kernel_rfl) (by kernel_rfl) (fun _ _ _ h => h) (by rfl) hHeld ?_
                      (try simp only [Act.put, List.setIfInBounds_toArray, List.set_cons_zero, List.set_cons_succ])
                      refine skipQ (i := 41) (k := 56) rfl (by rfl) (by kernel_rfl) (by kernel_rfl) (by kernel_rfl) (fun _ _ _ h => h) (by rfl) hHeld ?_
                      (try simp only [Act.put, List.setIfInBounds_toArray, List.set_cons_zero, List.set_cons_succ])
                      refine skipQ (i := 42) (k := 57) rfl (by rfl) (by kernel_rfl) (by kernel_rfl) (by kernel_rfl) (fun _ _ _ h => h) (by rfl) hHeld ?_
                      (try simp only [Act.put, List.setIfInBounds_toArray, List.set_cons_zero, List.set_cons_succ])
                      refine skipQ (i := 43) (k := 58) rfl (by rfl) (by kernel_rfl) (by kernel_rfl) (by kernel_rfl) (fun _ _ _ h => h) (by rfl) hHeld ?_
                      (try simp only [Act.put, List.setIfInBounds_toArray, List.set_cons_zero, List.set_cons_succ])
                      refine takeQ (i := 44) (k := 59) (v := .bool false) rfl (by rfl) (by kernel_rfl) (by kernel_rfl) (by kernel_rfl) (fun _ _ _ h => h) (by rfl) ?_ hHeld ?_
                      · intro w1 hSw; go_simp
                      (try simp only [Act.put, List.setIfInBounds_toArray, List.set_cons_zero, List.set_cons_succ])
                      refine takeQ (i := 45) (k := 60) (v := .bool false) rfl (by rfl) (by kernel_rfl) (by kernel_rfl) (by kernel_rfl) (fun _ _ _ h => h) (by rfl) ?_ hHeld ?_
                      · intro w1 hSw; go_simp
                      (try simp only [Act.put, List.setIfInBounds_toArray, List.set_cons_zero, List.set_cons_succ])
                      refine wpAnyH_done (by kernel_rfl) ?_ _
                      exact ⟨⟨congrArg Value.bool (show false = bad by rw [HBAD.out]; simp), hHeld⟩, by simp only [putAll, Act.put, List.setIfInBounds_toArray, List.set_cons_zero, List.set_cons_succ]; rfl⟩
      rintro vs W2 ⟨hv, hS⟩
      simp only [putAll, Act.put, List.setIfInBounds_toArray, List.set_cons_zero, List.set_cons_succ, hv]
      have HS := Lib.hid hS.2.2
      clear hv hS HX0 HX1 jA jD jE
      cases bad
      · have hall : b1 = true ∧ lt0 = true ∧ d = true ∧ e = true ∧ (o || (!bp && es)) = true := by
          have h := HBAD.out
          generalize (o || (!bp && es)) = f at h ⊢
          revert h
          cases b1 <;> cases lt0 <;> cases d <;> cases e <;> cases f <;> decide
        have HALL := Lib.hid hall
        clear hall
        go_wp2
        go_roundw
        case rel =>
          refine ⟨k + 1, by omega, by go_num, incR_succ HI.out hlt1 (fun h0 h' => ?_), allR_succ HA.out hlt1 ?_, HS.out⟩
          · have h := HLT1.out (k - 1) (by omega) h'
            rw [HALL.out.2.1] at h
            rw [HXR.out]
            exact h.symm
          · rw [HSE.out, HALL.out.1, HALL.out.2.2.1, HALL.out.2.2.2.1, HALL.out.2.2.2.2]
            rfl
        case measure => simp [intOf]; omega
      · have HL : Hid (Z = false) := Lib.hid (by
          rw [← HZ.out]
          refine okB_false (fun h => ?_)
          have q1 := h.2.2 k hlt1 hlt1
          rw [HSE.out] at q1
          have q2 : lt0 = true := by
            rcases Nat.eq_zero_or_pos k with h0 | h0
            · exact HLT0.out h0
            · have hk1 : k - 1 < xs.length := by omega
              rw [HLT1.out (k - 1) (by omega) hk1, ← HXR.out]
              exact h.2.1 k hlt1 h0 hlt1 hk1
          have q3 := HBAD.out
          rw [q2] at q3
          generalize (o || (!bp && es)) = f at q1 q3
          revert q1 q3
          cases b1 <;> cases d <;> cases e <;> cases f <;> decide)
        go_wp2
        go_ret
        exact ⟨ret_bool HL.out.symm, HS.out⟩
    · have HL : Hid (Z = decide (n ≤ 5)) := Lib.hid (by
        rw [← HZ.out]
        by_cases h5 : n ≤ 5
        · rw [decide_eq_true h5]
          refine okB_true ⟨by rw [HN.out]; exact h5, fun i hi h0 h1 h' => HI.out i hi h0 (by rw [HN.out] at hi; omega) h', fun i hi h0 => HA.out i hi (by rw [HN.out] at hi; omega)⟩
        · rw [decide_eq_false h5]
          exact okB_false (fun h => h5 (by have := h.1; rw [HN.out] at this; exact this)))
      clear hb
      go_wp2
      go_ret
      exact ⟨ret_bool (by rw [HL.out]; simp; omega), HB.out⟩
end Go.Proofs.YtpjmcpfmnlfmdaaGreat

namespace Go.Proofs.YtpjmcpfmnlfmdaaGreat
set_option linter.unusedSimpArgs false
set_option linter.unusedVariables false
open Go.RowKit

set_option maxHeartbeats 1000000 in
theorem sz_se (x : SeL) (left : Int) (w : World) (h0 : (x.r).size ≤ 9223372036854775807) (h1 : (x.s).size ≤ 9223372036854775807) (l0 : 0 ≤ left) (l1 : left ≤ 1048576) :
    Calls Tryz.prog 44 #[.agg #[.string x.r, .bool x.o, .int .i64 x.p, .string x.s], .int .i64 left] w fun e w' => (∃ z, e = .returned (.int .i64 z) ∧ (z = -1 ∨ 0 ≤ z ∧ z = left - (x.r).size - (x.s).size)) ∧ Below w.heap.size w w' := by
  by_cases k0 : left - (x.r).size < 0
  · go_enter Tryz.func44, Tryz.ntmps44
    go_wp2
    all_goals (go_ret; exact ⟨⟨_, rfl, .inl rfl⟩, (Below.refl _ _).alloc (Nat.le_refl _) _⟩)
  by_cases k1 : left - (x.r).size - (x.s).size < 0
  · go_enter Tryz.func44, Tryz.ntmps44
    go_wp2
    all_goals (go_ret; exact ⟨⟨_, rfl, .inl rfl⟩, (Below.refl _ _).alloc (Nat.le_refl _) _⟩)
  go_enter Tryz.func44, Tryz.ntmps44
  go_wp2
  all_goals (go_ret; exact ⟨⟨_, rfl, .inr ⟨by omega, by omega⟩⟩, (Below.refl _ _).alloc (Nat.le_refl _) _⟩)
set_option maxHeartbeats 1000000 in
theorem to_se (x : SeL) (w : World) : Calls Tryz.prog 51 #[.agg #[.string x.r, .bool x.o, .int .i64 x.p, .string x.s]] w fun e w' => e = .returned (.agg #[.string x.r, .bool x.o, .int .i64 x.p, .string x.s]) ∧ Below w.heap.size w w' := by
  go_enter Tryz.func51, Tryz.ntmps51
  go_wp2
  exact bodyPost_ret (v := .agg #[.string x.r, .bool x.o, .int .i64 x.p, .string x.s]) (by simp [results, Tryz.results51, go_sem]) rfl ⟨rfl, (((Below.refl _ _).alloc (Nat.le_refl _) _).alloc (by simp) _).alloc (by simp; omega) _⟩
theorem rowA_se {w : World} {p : Option Addr} {xs : List SeL} (h : RowA seC 4 w p xs) {i : Nat} (hi : i < xs.length) : ∃ g o, p = some ⟨g, o, none⟩ ∧ g < w.heap.size ∧ w.cell? ⟨g, o + i * 4, none⟩ = (seC xs[i])[0]? ∧ w.cell? ⟨g, o + i * 4 + 1, none⟩ = (seC xs[i])[1]? ∧ w.cell? ⟨g, o + i * 4 + 2, none⟩ = (seC xs[i])[2]? ∧ w.cell? ⟨g, o + i * 4 + 3, none⟩ = (seC xs[i])[3]? := by
  obtain ⟨g, o, h1, h2, h3⟩ := h (List.ne_nil_of_length_pos (by omega))
  refine ⟨g, o, h1, h2, ?_, ?_, ?_, ?_⟩
  · exact h3 i hi 0 (by decide)
  · have := h3 i hi 1 (by decide)
    rwa [← Nat.add_assoc] at this
  · have := h3 i hi 2 (by decide)
    rwa [← Nat.add_assoc] at this
  · have := h3 i hi 3 (by decide)
    rwa [← Nat.add_assoc] at this
def Sz_se (x : SeL) : Prop := (x.r).size ≤ 9223372036854775807 ∧ (x.s).size ≤ 9223372036854775807
def Le_se (left : Int) (x : SeL) : Prop := ((x.r).size : Int) ≤ left ∧ ((x.s).size : Int) ≤ left
set_option maxRecDepth 100000 in
set_option maxHeartbeats 1000000 in
theorem szs_se (xs : List SeL) (p : Option Addr) (cap : Nat) (left : Int) (w : World) (hl : xs.length ≤ 9223372036854775807) (hw : ∀ x ∈ xs, Sz_se x) (l0 : 0 ≤ left) (l1 : left ≤ 1048576) (hR : RowA seC 4 w p xs) :
    Calls Tryz.prog 21 #[.slice p xs.length cap, .int .i64 left] w fun e w' => (∃ z, e = .returned (.int .i64 z) ∧ (z = -1 ∨ 0 ≤ z ∧ z ≤ left ∧ (xs.length : Int) ≤ left ∧ ∀ x ∈ xs, Le_se left x)) ∧ Below w.heap.size w w' := by
  obtain ⟨n, hxn⟩ : ∃ n, xs.length = n := ⟨_, rfl⟩
  have HR := Lib.hid hR
  have HW := Lib.hid hw
  have HN := Lib.hid hxn
  rw [hxn] at hl ⊢
  clear hR hw hxn
  by_cases hbig : left < (n : Int)
  · go_enter Tryz.func21, Tryz.ntmps21
    go_wp2
    go_ret
    exact ⟨⟨_, rfl, .inl rfl⟩, Below.refl _ _⟩
  · go_enter Tryz.func21, Tryz.ntmps21
    go_wp2
    go_loopw [1, 5] (fun lq iq wr => ∃ (i : Nat) (l : Int), i ≤ n ∧ iq = .int .i64 i ∧ lq = .int .i64 l ∧ 0 ≤ l ∧ l ≤ left ∧ (∀ j (hj : j < xs.length), j < i → Le_se left xs[j]) ∧ Below w.heap.size w wr) (fun _ i _ => n - (intOf i).toNat)
    case atStart => exact ⟨0, _, Nat.zero_le _, rfl, rfl, by omega, by omega, fun j _ hj => absurd hj (Nat.not_lt_zero _), Below.refl _ _⟩
    case round =>
      obtain ⟨i, l, hi, rfl, rfl, hl0, hl1, hall, hb⟩ := hrel
      have HA := Lib.hid hall
      have HB := Lib.hid hb
      by_cases hlt : i < n
      · have hlt' : i < xs.length := by rw [HN.out]; exact hlt
        obtain ⟨g, o, rfl, hg, a0, a1, a2, a3⟩ := rowA_se (HR.out.below hb) hlt'
        obtain ⟨x, hx⟩ : ∃ x, xs[i] = x := ⟨_, rfl⟩
        have hxw := HW.out _ (List.getElem_mem hlt')
        have HX := Lib.hid hx
        rw [hx] at a0 a1 a2 a3 hxw
        unfold seC at a0 a1 a2 a3
        simp only [List.getElem?_cons_zero, List.getElem?_cons_succ] at a0 a1 a2 a3
        unfold Sz_se at hxw
        clear hall hb hx
        go_wp2_with (go_at_call 44; go_fit (sz_se x _ _ (by omega) (by omega) (by omega) (by omega)); (rintro e w1 ⟨⟨z, rfl, hz⟩, hb1⟩); (rcases hz with rfl | ⟨hz0, hz1⟩))
        · go_ret
          exact ⟨⟨_, rfl, .inl rfl⟩, HB.out.trans (hb1.mono HB.out.size)⟩
        · go_roundw
          case rel =>
            refine ⟨i + 1, _, by omega, by go_num, rfl, by omega, by omega, fun j hj hji => ?_, HB.out.trans (hb1.mono HB.out.size)⟩
            by_cases e : j = i
            · subst e
              rw [HX.out]
              unfold Le_se
              omega
            · exact HA.out j hj (by omega)
          case measure => simp [intOf]; omega
      · obtain rfl : i = n := by omega
        go_wp2
        go_ret
        refine ⟨⟨_, rfl, .inr ⟨hl0, hl1, by omega, fun x hx => ?_⟩⟩, HB.out⟩
        obtain ⟨j, hj, rfl⟩ := List.mem_iff_getElem.1 hx
        exact HA.out j hj (by rw [← HN.out]; exact hj)
/-- So many elements have been copied. -/
def Cop_se (xs : List SeL) (g n i : Nat) (W : World) : Prop := ∃ L, Arr W g 70 L ∧ L.length = n * 4 ∧ ∀ i' (h : i' < xs.length), i' < i → ∀ j, j < 4 → L[i' * 4 + j]? = (seC xs[i'])[j]?
theorem Cop_se.on {xs : List SeL} {g n i : Nat} {W W2 : World} (h : Cop_se xs g n i W) (hb : Below W.heap.size W W2) : Cop_se xs g n i W2 := by
  obtain ⟨L, h1, h2⟩ := h
  exact ⟨L, (hb.block g (Array.getElem?_eq_some_iff.1 h1).1).trans h1, h2⟩
theorem Cop_se.there {xs : List SeL} {g n i q : Nat} {W : World} (h : Cop_se xs g n i W) (hq : q < n * 4) : (∃ u, W.cell? ⟨g, q, none⟩ = some u) ∧ W.frozen? ⟨g, q, none⟩ = false := by
  obtain ⟨L, h1, h2, _⟩ := h
  rw [h1.cell, h1.free]
  exact ⟨⟨L[q]'(by omega), List.getElem?_eq_getElem _⟩, rfl⟩
theorem Cop_se.step {xs : List SeL} {g n i : Nat} {W : World} (h : Cop_se xs g n i W) (hi : i < n) {x : SeL} (hx : xs[i]? = some x) : Cop_se xs g n (i + 1) ((((W.setCell ⟨g, i * 4, none⟩ (.string x.r)).setCell ⟨g, i * 4 + 1, none⟩ (.bool x.o)).setCell ⟨g, i * 4 + 2, none⟩ (.int .i64 x.p)).setCell ⟨g, i * 4 + 3, none⟩ (.string x.s)) := by
  obtain ⟨L, h1, h2, h3⟩ := h
  refine ⟨_, (((h1.put (i * 4) _).put (i * 4 + 1) _).put (i * 4 + 2) _).put (i * 4 + 3) _, by simpa using h2, fun i' hi' hlt j hj => ?_⟩
  by_cases e : i' = i
  · subst e
    have ex : xs[i'] = x := by rw [List.getElem?_eq_getElem hi'] at hx; exact Option.some.inj hx
    rw [ex]
    match j, hj with
    | 0, _ => rw [show i' * 4 + 0 = i' * 4 from rfl]; rw [List.getElem?_set_ne (by omega)]; rw [List.getElem?_set_ne (by omega)]; rw [List.getElem?_set_ne (by omega)]; rw [List.getElem?_set_self (by first | omega | (simp; omega))]; rfl
    | 1, _ => rw [List.getElem?_set_ne (by omega)]; rw [List.getElem?_set_ne (by omega)]; rw [List.getElem?_set_self (by first | omega | (simp; omega))]; rfl
    | 2, _ => rw [List.getElem?_set_ne (by omega)]; rw [List.getElem?_set_self (by first | omega | (simp; omega))]; rfl
    | 3, _ => rw [List.getElem?_set_self (by first | omega | (simp; omega))]; rfl
  · have := h3 i' hi' (by omega) j hj
    rw [List.getElem?_set_ne (by omega), List.getElem?_set_ne (by omega), List.getElem?_set_ne (by omega), List.getElem?_set_ne (by omega)]
    exact this
theorem Cop_se.own {xs : List SeL} {g n B : Nat} {W : World} (h : Cop_se xs g n n W) (hn : xs.length = n) (hB : B ≤ g) (hm : n ≤ 1048576) : OwnC seC W B 70 4 (.slice (some ⟨g, 0, none⟩) n n) xs := by
  obtain ⟨L, h1, h2, h3⟩ := h
  have e : L = xs.flatMap seC := by
    apply List.ext_getElem?
    intro q
    by_cases hq : q < n * 4
    · have h4 := h3 (q / 4) (by rw [hn]; omega) (by omega) (q % 4) (by omega)
      rw [show q / 4 * 4 + q % 4 = q by omega] at h4
      rw [h4]
      have h5 := flat_at (enc := seC) (size := 4) (fun _ => rfl) xs (q / 4) (q % 4) (by rw [hn]; omega) (by omega)
      rw [show q / 4 * 4 + q % 4 = q by omega] at h5
      exact h5.symm
    · rw [List.getElem?_eq_none (by omega), List.getElem?_eq_none]
      rw [flat_len (enc := seC) (size := 4) (fun _ => rfl), hn]
      omega
  refine ⟨by rw [flat_len (enc := seC) (size := 4) (fun _ => rfl)], .inr ⟨g, n, L.toArray, by rw [hn], hB, h1, by omega, by unfold maxLen; omega, by simpa using h2, ?_⟩⟩
  rw [← e, List.take_of_length_le (by simp; rw [h2, hn]; omega)]
theorem cop_se_start {xs : List SeL} {w w1 : World} {z : Array Value} {n B : Nat} (h : w1.ownsRow B 70 4 (.slice (some ⟨w.heap.size, 0, none⟩) n n) n (madeCells z (n * 4)).toList) : Cop_se xs w.heap.size n 0 w1 := by
  rcases h.2 with ⟨h0, _⟩ | ⟨g, cap, cur, h1, h2, h3, h4, h5, h6, h7⟩
  · cases h0
  · injection h1 with e1 e2 e3
    injection e1 with e1
    injection e1 with e1
    subst e1 e3
    exact ⟨cur.toList, h3, by simpa using h6, fun i' _ hi' => absurd hi' (Nat.not_lt_zero _)⟩
theorem info_se : (Tryz.prog.info? 70).map (fun i => (i.zero, i.size, i.bytes)) = some (some (.agg #[.string ⟨#[]⟩, .bool false, .int .i64 0, .string ⟨#[]⟩]), 4, 48) := by kernel_rfl
set_option maxRecDepth 100000 in
set_option maxHeartbeats 1000000 in
theorem tos_se (xs : List SeL) (p : Option Addr) (cap : Nat) (w : World) (hl : xs.length ≤ 1048576) (hR : RowA seC 4 w p xs) :
    Calls Tryz.prog 27 #[.slice p xs.length cap] w fun e w' => (∃ v, e = .returned v ∧ OwnC seC w' w.heap.size 70 4 v xs) ∧ Below w.heap.size w w' := by
  obtain ⟨n, hxn⟩ : ∃ n, xs.length = n := ⟨_, rfl⟩
  have HR := Lib.hid hR
  have HN := Lib.hid hxn
  rw [hxn] at hl ⊢
  clear hR hxn
  obtain ⟨i0, hi, hz0, hz1, hz2⟩ := info_parts info_se
  go_enter Tryz.func27, Tryz.ntmps27
  go_wp2_with (refine wpList_make_full _ rfl (.tmp 6) (.tmp 6) 30 rfl w.heap.size 70 i0 (.agg #[.string ⟨#[]⟩, .bool false, .int .i64 0, .string ⟨#[]⟩]) 4 Tryz.underlying30 hi hz0 hz1 .i64 .i64 _ _ n rfl rfl rfl rfl (by rw [hz2]; omega) (by unfold maxLen; omega) (Nat.le_refl _) ?_; intro w1 ho1 hg1)
  have HC0 : Hid (Cop_se xs w.heap.size n 0 w1) := Lib.hid (cop_se_start ho1)
  have HB0 : Hid (Below w.heap.size w w1) := Lib.hid ((Below.refl _ _).grown hg1 (Nat.le_refl _) (fun k hk => by cases hk))
  have hsz0 := HB0.out.size
  have hgz : w.heap.size < w1.heap.size := (ho1.lt w.heap.size rfl).2
  clear ho1 hg1
  go_loopw [4] (fun iq wr => ∃ i : Nat, i ≤ n ∧ iq = .int .i64 i ∧ Cop_se xs w.heap.size n i wr ∧ Below w.heap.size w wr) (fun i _ => n - (intOf i).toNat)
  case atStart => exact ⟨0, Nat.zero_le _, rfl, HC0.out, HB0.out⟩
  case round =>
    obtain ⟨i, hi', rfl, hC, hb⟩ := hrel
    have HC := Lib.hid hC
    have HB := Lib.hid hb
    by_cases hlt : i < n
    · have hlt' : i < xs.length := by rw [HN.out]; exact hlt
      obtain ⟨g, o, rfl, hg, a0, a1, a2, a3⟩ := rowA_se HR.out hlt'
      obtain ⟨x, hx⟩ : ∃ x, xs[i] = x := ⟨_, rfl⟩
      have HX : Hid (xs[i]? = some x) := Lib.hid (by rw [List.getElem?_eq_getElem hlt', hx])
      rw [hx] at a0 a1 a2 a3
      replace a0 := (hb.cell (p := ⟨g, o + i * 4, none⟩) hg).trans a0; replace a1 := (hb.cell (p := ⟨g, o + i * 4 + 1, none⟩) hg).trans a1; replace a2 := (hb.cell (p := ⟨g, o + i * 4 + 2, none⟩) hg).trans a2; replace a3 := (hb.cell (p := ⟨g, o + i * 4 + 3, none⟩) hg).trans a3
      unfold seC at a0 a1 a2 a3
      simp only [List.getElem?_cons_zero, List.getElem?_cons_succ] at a0 a1 a2 a3
      clear hb hC hx
      go_wp2_with (go_at_call 51; go_fit (to_se x _); rintro e w2 ⟨rfl, hb2⟩; have HC1 := Lib.hid (HC.out.on hb2); have HB1 := Lib.hid (HB.out.trans (hb2.mono HB.out.size)); clear hb2; obtain ⟨⟨v0, d0⟩, f0⟩ := HC1.out.there (q := i * 4) (by omega); obtain ⟨⟨v1, d1⟩, f1⟩ := HC1.out.there (q := i * 4 + 1) (by omega); obtain ⟨⟨v2, d2⟩, f2⟩ := HC1.out.there (q := i * 4 + 2) (by omega); obtain ⟨⟨v3, d3⟩, f3⟩ := HC1.out.there (q := i * 4 + 3) (by omega))
      go_roundw
      case rel => exact ⟨i + 1, by omega, by go_num, HC1.out.step hlt HX.out, (((HB1.out.setCell (p := ⟨w.heap.size, i * 4, none⟩) (Nat.le_refl _) _).setCell (p := ⟨w.heap.size, i * 4 + 1, none⟩) (Nat.le_refl _) _).setCell (p := ⟨w.heap.size, i * 4 + 2, none⟩) (Nat.le_refl _) _).setCell (p := ⟨w.heap.size, i * 4 + 3, none⟩) (Nat.le_refl _) _⟩
      case measure => simp [intOf]; omega
    · obtain rfl : i = n := by omega
      go_wp2
      go_ret
      exact ⟨⟨_, rfl, HC.out.own HN.out (Nat.le_refl _) hl⟩, HB.out⟩
end Go.Proofs.YtpjmcpfmnlfmdaaGreat

namespace Go.Proofs.YtpjmcpfmnlfmdaaGreat
set_option linter.unusedSimpArgs false
set_option linter.unusedVariables false
open Go.RowKit

set_option maxRecDepth 100000 in
set_option maxHeartbeats 1000000 in
theorem eq_se (x : SeL) (w : World) : Calls Tryz.prog 62 #[.agg #[.string x.r, .bool x.o, .int .i64 x.p, .string x.s], .agg #[.string x.r, .bool x.o, .int .i64 x.p, .string x.s]] w fun e w' => e = .returned (.bool true) ∧ Below w.heap.size w w' := by
  go_enter Tryz.func62, Tryz.ntmps62
  go_wp2
  go_ret
  exact ⟨rfl, ((Below.refl _ _).alloc (Nat.le_refl _) _).alloc (by simp) _⟩
abbrev Both_se (a b i : Nat) (x : SeL) (wr W : World) : Prop := ((W.cell? ⟨a, i * 4, none⟩ = some (.string x.r) ∧ W.cell? ⟨a, i * 4 + 1, none⟩ = some (.bool x.o) ∧ W.cell? ⟨a, i * 4 + 2, none⟩ = some (.int .i64 x.p) ∧ W.cell? ⟨a, i * 4 + 3, none⟩ = some (.string x.s)) ∧ (W.cell? ⟨b, i * 4, none⟩ = some (.string x.r) ∧ W.cell? ⟨b, i * 4 + 1, none⟩ = some (.bool x.o) ∧ W.cell? ⟨b, i * 4 + 2, none⟩ = some (.int .i64 x.p) ∧ W.cell? ⟨b, i * 4 + 3, none⟩ = some (.string x.s))) ∧ (Below wr.heap.size wr W ∧ a < wr.heap.size ∧ b < wr.heap.size)
theorem both_se_on {a b i : Nat} {x : SeL} {wr W W2 : World} (h : Both_se a b i x wr W) (hb : Below W.heap.size W W2) : Both_se a b i x wr W2 := by
  obtain ⟨⟨⟨c0, c1, c2, c3⟩, d0, d1, d2, d3⟩, h1, h2, h3⟩ := h
  have ha : a < W.heap.size := Nat.lt_of_lt_of_le h2 h1.size
  have hb0 : b < W.heap.size := Nat.lt_of_lt_of_le h3 h1.size
  exact ⟨⟨⟨(hb.cell (p := ⟨a, i * 4, none⟩) ha).trans c0, (hb.cell (p := ⟨a, i * 4 + 1, none⟩) ha).trans c1, (hb.cell (p := ⟨a, i * 4 + 2, none⟩) ha).trans c2, (hb.cell (p := ⟨a, i * 4 + 3, none⟩) ha).trans c3⟩, (hb.cell (p := ⟨b, i * 4, none⟩) hb0).trans d0, (hb.cell (p := ⟨b, i * 4 + 1, none⟩) hb0).trans d1, (hb.cell (p := ⟨b, i * 4 + 2, none⟩) hb0).trans d2, (hb.cell (p := ⟨b, i * 4 + 3, none⟩) hb0).trans d3⟩, h1.trans (hb.mono h1.size), h2, h3⟩
theorem both_se_drew {a b i : Nat} {x : SeL} {wr W : World} (h : Both_se a b i x wr W) : Both_se a b i x wr W.drew := both_se_on h (Below.refl _ _).drew
theorem row_se {w : World} {p : Option Addr} {xs : List SeL} (h : RowC seC 4 w p xs) {i : Nat} (hi : i < xs.length) : ∃ g, p = some ⟨g, 0, none⟩ ∧ g < w.heap.size ∧ w.cell? ⟨g, i * 4, none⟩ = (seC xs[i])[0]? ∧ w.cell? ⟨g, i * 4 + 1, none⟩ = (seC xs[i])[1]? ∧ w.cell? ⟨g, i * 4 + 2, none⟩ = (seC xs[i])[2]? ∧ w.cell? ⟨g, i * 4 + 3, none⟩ = (seC xs[i])[3]? := by
  obtain ⟨g, h1, h2, h3⟩ := h (List.ne_nil_of_length_pos (by omega))
  exact ⟨g, h1, h2, h3 i hi 0 (by decide), h3 i hi 1 (by decide), h3 i hi 2 (by decide), h3 i hi 3 (by decide)⟩
set_option maxRecDepth 100000 in
set_option maxHeartbeats 2000000 in
theorem eqs_se (xs : List SeL) (p q : Option Addr) (c d : Nat) (w : World) (hn : xs.length ≤ 2000000) (hp : RowC seC 4 w p xs) (hq : RowC seC 4 w q xs) :
    Calls Tryz.prog 33 #[.slice p xs.length c, .slice q xs.length d] w fun e w' => e = .returned (.bool true) ∧ Below w.heap.size w w' := by
  obtain ⟨n, hxn⟩ : ∃ n, xs.length = n := ⟨_, rfl⟩
  have HP := Lib.hid hp
  have HQ := Lib.hid hq
  have HN := Lib.hid hxn
  rw [hxn] at hn ⊢
  clear hp hq hxn
  go_enter Tryz.func33, Tryz.ntmps33
  go_wp2
  go_loopw [5] (fun iq wr => ∃ i : Nat, i ≤ n ∧ iq = .int .i64 i ∧ Below w.heap.size w wr) (fun i _ => n - (intOf i).toNat)
  case atStart => exact ⟨0, Nat.zero_le _, rfl, Below.refl _ _⟩
  case round =>
    obtain ⟨i, hi, rfl, hb⟩ := hrel
    have HB := Lib.hid hb
    by_cases hlt : i < n
    · obtain ⟨a, rfl, ha, a0, a1, a2, a3⟩ := row_se HP.out (i := i) (by rw [HN.out]; exact hlt)
      obtain ⟨b, rfl, hb0, b0, b1, b2, b3⟩ := row_se HQ.out (i := i) (by rw [HN.out]; exact hlt)
      obtain ⟨x, hx⟩ : ∃ x, xs[i]'(by rw [HN.out]; exact hlt) = x := ⟨_, rfl⟩
      rw [hx] at a0 b0 a1 b1 a2 b2 a3 b3
      have HS : Hid (Both_se a b i x wr wr) := Lib.hid ⟨⟨⟨(hb.cell (p := ⟨a, i * 4, none⟩) ha).trans a0, (hb.cell (p := ⟨a, i * 4 + 1, none⟩) ha).trans a1, (hb.cell (p := ⟨a, i * 4 + 2, none⟩) ha).trans a2, (hb.cell (p := ⟨a, i * 4 + 3, none⟩) ha).trans a3⟩, (hb.cell (p := ⟨b, i * 4, none⟩) hb0).trans b0, (hb.cell (p := ⟨b, i * 4 + 1, none⟩) hb0).trans b1, (hb.cell (p := ⟨b, i * 4 + 2, none⟩) hb0).trans b2, (hb.cell (p := ⟨b, i * 4 + 3, none⟩) hb0).trans b3⟩, Below.refl _ _, Nat.lt_of_lt_of_le ha hb.size, Nat.lt_of_lt_of_le hb0 hb.size⟩
      clear hb a0 b0 a1 b1 a2 b2 a3 b3 hx ha hb0
      go_wp2
      go_region_held3 (fun W => ((W.cell? ⟨a, i * 4, none⟩ = some (.string x.r) ∧ W.cell? ⟨a, i * 4 + 1, none⟩ = some (.bool x.o) ∧ W.cell? ⟨a, i * 4 + 2, none⟩ = some (.int .i64 x.p) ∧ W.cell? ⟨a, i * 4 + 3, none⟩ = some (.string x.s)) ∧ (W.cell? ⟨b, i * 4, none⟩ = some (.string x.r) ∧ W.cell? ⟨b, i * 4 + 1, none⟩ = some (.bool x.o) ∧ W.cell? ⟨b, i * 4 + 2, none⟩ = some (.int .i64 x.p) ∧ W.cell? ⟨b, i * 4 + 3, none⟩ = some (.string x.s))) ∧ (Below wr.heap.size wr W ∧ a < wr.heap.size ∧ b < wr.heap.size))
        (with_reducible first | assumption | exact both_se_drew HS.out | exact both_se_on (by assumption) hbN)
        (first | (go_at_call 62; go_fit (eq_se x _); rintro e wn ⟨rfl, hbN⟩; have HF := Lib.hid (both_se_on (i := i) (wr := wr) (by assumption) hbN)))
      go_wp2
      go_roundw
      case rel => exact ⟨i + 1, by omega, by go_num, HB.out.trans (HF.out.2.1.mono HB.out.size)⟩
      case measure => simp [intOf]; omega
    · obtain rfl : i = n := by omega
      go_wp2
      go_ret
      exact ⟨rfl, HB.out⟩
end Go.Proofs.YtpjmcpfmnlfmdaaGreat

namespace Go.Proofs.YtpjmcpfmnlfmdaaGreat
set_option linter.unusedSimpArgs false
set_option linter.unusedVariables false
open Go.RowKit Go.Joins

theorem row_ownS {W : World} {B : Nat} {p : Option Addr} {k n : Nat} {xs : List SeL} (h : OwnC seC W B 70 4 (.slice p n k) xs) : RowC seC 4 W p xs := by
  obtain ⟨p', k', e, hR⟩ := h.row seC_len
  injection e with e1 e2 e3
  rw [e1]
  exact hR
theorem own_lenS {W : World} {B : Nat} {v : Value} {xs : List SeL} (h : OwnC seC W B 70 4 v xs) : ∃ p k, v = .slice p xs.length k := by
  obtain ⟨p', k', e, hR⟩ := h.row seC_len
  exact ⟨p', k', e⟩
theorem to_arg {w : World} {a : Option Addr} {len cap : Nat} {xs : List SeL} (x0 : SsArg w a len xs) (hl : len ≤ 1048576) (W : World) (hb : Below w.heap.size w W) :
    Calls Tryz.prog 27 #[.slice a len cap] W fun e w' => (∃ p k, e = .returned (.slice p len k) ∧ OwnC seC w' W.heap.size 70 4 (.slice p len k) xs) ∧ Below W.heap.size W w' := by
  obtain ⟨rfl, h2, h3, h4⟩ := x0
  refine (tos_se xs a cap W hl (h4.below hb)).mono ?_
  rintro e w' ⟨⟨v, rfl, ho⟩, hb'⟩
  obtain ⟨p, k, rfl⟩ := own_lenS ho
  exact ⟨⟨p, k, rfl, ho⟩, hb'⟩
theorem se_max {xs : List SeL} (h : ∀ x ∈ xs, x.r.size ≤ 1048576 ∧ x.s.size ≤ 1048576) : ∀ x ∈ xs, x.r.size ≤ maxLen := fun x hx => by have := (h x hx).1; unfold maxLen; omega
end Go.Proofs.YtpjmcpfmnlfmdaaGreat

namespace Go.Proofs.YtpjmcpfmnlfmdaaGreat
set_option linter.unusedSimpArgs false
set_option linter.unusedVariables false
open Go.RowKit

end Go.Proofs.YtpjmcpfmnlfmdaaGreat

namespace Go.Proofs.YtpjmcpfmnlfmdaaGreat
set_option linter.unusedSimpArgs false
set_option linter.unusedVariables false
open Go.RowKit Go.Joins

theorem joined_one9 (s : ByteArray) (w : World) (hs : s.size ≤ 2000000) :
    Calls Tryz.prog 88 #[.slice (some ⟨w.heap.size, 0, none⟩) 1 1] (w.alloc (.cells #[.string s] 9)) fun e w' => e = .returned (.string s) ∧ Below w.heap.size w w' := by
  have h := impl_joined w.heap.size 1 [s] (w.alloc (.cells #[.string s] 9)) (by simp) (fun j hj => by
    have hj0 : j = 0 := by simp at hj; omega
    subst hj0
    exact (Arr.fresh w 9 [.string s]).cell 0) (by simp) (by rw [flat_one, size_data]; omega)
  rw [flat_one] at h
  exact h.mono fun e w' ⟨he, hb⟩ => ⟨by rw [he]; rfl, below_one hb⟩
theorem joined_at9 (s : ByteArray) (w : World) (hs : s.size ≤ 2000000) (b : Nat) (hb : w.heap.size = b) :
    Calls Tryz.prog 88 #[.slice (some ⟨b, 0, none⟩) 1 1] (w.alloc (.cells #[.string s] 9)) fun e w' => e = .returned (.string s) ∧ Below w.heap.size w w' := by
  subst hb
  exact joined_one9 s w hs
theorem arr9_on {w w1 : World} {b t : Nat} {cs : List Value} (h : Arr w b t cs) (hb : Below w.heap.size w w1) : Arr w1 b t cs := (hb.block b (Array.getElem?_eq_some_iff.1 h).1).trans h
theorem arr9_cells {w : World} {b t : Nat} {a0 a1 a2 a3 : Value} (h : Arr w b t [a0, a1, a2, a3]) : (w.cell? ⟨b, 0, none⟩ = some a0 ∧ w.cell? ⟨b, 1, none⟩ = some a1 ∧ w.cell? ⟨b, 2, none⟩ = some a2 ∧ w.cell? ⟨b, 3, none⟩ = some a3) ∧
    w.frozen? ⟨b, 0, none⟩ = false ∧ w.frozen? ⟨b, 1, none⟩ = false ∧ w.frozen? ⟨b, 2, none⟩ = false ∧ w.frozen? ⟨b, 3, none⟩ = false := ⟨⟨h.cell 0, h.cell 1, h.cell 2, h.cell 3⟩, h.free 0, h.free 1, h.free 2, h.free 3⟩
/-- The two boxes of sessionCopy. -/
def Cp9 (w W : World) (x : SeL) : Prop := Arr W w.heap.size 70 [.string x.r, .bool x.o, .int .i64 x.p, .string x.s] ∧ Arr W (w.heap.size + 1) 70 [.string ⟨#[]⟩, .bool false, .int .i64 0, .string ⟨#[]⟩] ∧ Below w.heap.size w W
theorem Cp9.on {w W W2 : World} {x : SeL} (h : Cp9 w W x) (hb : Below W.heap.size W W2) : Cp9 w W2 x := ⟨arr9_on h.1 hb, arr9_on h.2.1 hb, h.2.2.trans (hb.mono h.2.2.size)⟩
theorem cp9_start (w : World) (x : SeL) : Cp9 w ((w.alloc (.cells #[.string x.r, .bool x.o, .int .i64 x.p, .string x.s] 70)).alloc (.cells #[.string ⟨#[]⟩, .bool false, .int .i64 0, .string ⟨#[]⟩] 70)) x := by
  have h2 := Arr.fresh (w.alloc (.cells #[.string x.r, .bool x.o, .int .i64 x.p, .string x.s] 70)) 70 [.string ⟨#[]⟩, .bool false, .int .i64 0, .string ⟨#[]⟩]
  rw [World.size_alloc] at h2
  exact ⟨arr9_on (Arr.fresh w 70 [.string x.r, .bool x.o, .int .i64 x.p, .string x.s]) ((Below.refl _ _).alloc (Nat.le_refl _) _), h2, ((Below.refl _ _).alloc (Nat.le_refl _) _).alloc (by simp) _⟩
theorem Cp9.put0 {w W : World} {x : SeL} (h : Cp9 w W x) : Cp9 w (W.setCell ⟨w.heap.size, 0, none⟩ (.string x.r)) x :=
  ⟨h.1.put 0 _, (heap_setCell_other W ⟨w.heap.size, 0, none⟩ (w.heap.size + 1) _ (by show w.heap.size + 1 ≠ w.heap.size; omega)).trans h.2.1, h.2.2.setCell (p := ⟨w.heap.size, 0, none⟩) (Nat.le_refl _) _⟩
theorem Cp9.put3 {w W : World} {x : SeL} (h : Cp9 w W x) : Cp9 w (W.setCell ⟨w.heap.size, 3, none⟩ (.string x.s)) x :=
  ⟨h.1.put 3 _, (heap_setCell_other W ⟨w.heap.size, 3, none⟩ (w.heap.size + 1) _ (by show w.heap.size + 1 ≠ w.heap.size; omega)).trans h.2.1, h.2.2.setCell (p := ⟨w.heap.size, 3, none⟩) (Nat.le_refl _) _⟩
set_option maxRecDepth 100000 in
set_option maxHeartbeats 1000000 in
theorem impl_secopy (x : SeL) (w : World) (hr : x.r.size ≤ 1048576) (hs : x.s.size ≤ 1048576) : Calls Tryz.prog 109 #[seV x] w fun e w' => e = .returned (seV x) ∧ Below w.heap.size w w' := by
  have HS := Lib.hid (cp9_start w x)
  have i1 := fun W => joined_at9 x.r W (by omega)
  have i2 := fun W => joined_at9 x.s W (by omega)
  unfold seV
  clear hr hs
  go_enter Tryz.func109, Tryz.ntmps109
  go_wp2_with (first
    | (go_at_call 88; have _ := HS1; go_fit (i2 _ _ (by simp)); rintro e w2 ⟨rfl, hb⟩; have HS2 := Lib.hid (HS1.out.put0.on hb); clear hb; obtain ⟨⟨c0, c1, c2, c3⟩, f0, f1, f2, f3⟩ := arr9_cells HS2.out.1; obtain ⟨⟨d0, d1, d2, d3⟩, e0, e1, e2, e3⟩ := arr9_cells HS2.out.2.1)
    | (go_at_call 88; go_fit (i1 _ _ (by simp)); rintro e w1 ⟨rfl, hb⟩; have HS1 := Lib.hid (HS.out.on hb); clear hb; obtain ⟨⟨c0, c1, c2, c3⟩, f0, f1, f2, f3⟩ := arr9_cells HS1.out.1))
  have hE : Arr _ (w.heap.size + 1) 70 [.string x.r, .bool x.o, .int .i64 x.p, .string x.s] := (((HS2.out.put3.2.1.put 0 (.string x.r)).put 1 (.bool x.o)).put 2 (.int .i64 x.p)).put 3 (.string x.s)
  exact bodyPost_ret (v := .agg #[.string x.r, .bool x.o, .int .i64 x.p, .string x.s]) (results_cell_row (P := Tryz.prog) Tryz.results109 _ _ (w.heap.size + 1) 70 _ (0, 0) _ rfl hE Tryz.underlying70 rfl (by kernel_rfl)) rfl
    ⟨rfl, (((HS2.out.put3.2.2.setCell (p := ⟨w.heap.size + 1, 0, none⟩) (Nat.le_succ _) _).setCell (p := ⟨w.heap.size + 1, 1, none⟩) (Nat.le_succ _) _).setCell (p := ⟨w.heap.size + 1, 2, none⟩) (Nat.le_succ _) _).setCell (p := ⟨w.heap.size + 1, 3, none⟩) (Nat.le_succ _) _⟩
theorem info_sec : (Tryz.prog.info? 70).map (fun i => (i.zero, i.size, i.bytes)) = some (some (.agg #[.string ⟨#[]⟩, .bool false, .int .i64 0, .string ⟨#[]⟩]), 4, 48) := by kernel_rfl
/-- append(v, y) within the capacity. -/
theorem app_fitS (w : World) {ops : Array Oper} {rest : List Oper} {o : Oper} {a : Act} {Q : Exit → Act → World → Prop} (hgd : o.guard = none) (s x : Operand)
    (ho : o.op = Op.call { callee := Callee.builtin Builtin.append, args := #[s, x], argTypes := #[30, 30] })
    (B g k cap : Nat) (xs : List SeL) (hs : a.eval s = .slice (some ⟨g, 0, none⟩) k cap) (hown : OwnC seC w B 70 4 (.slice (some ⟨g, 0, none⟩) k cap) xs) (hk : xs.length = k) (b : Nat) (y : SeL) (hx : a.eval x = .slice (some ⟨b, 0, none⟩) 1 1) (hA : Arr w b 70 (seC y)) (hfit : k + 1 ≤ cap)
    (h : ∀ w', OwnC seC w' B 70 4 (.slice (some ⟨g, 0, none⟩) (k + 1) cap) (xs ++ [y]) → w.grownBy w' (some g) → wpList Tryz.prog ops Q rest (a.put o.dst (.slice (some ⟨g, 0, none⟩) (k + 1) cap)) w') : wpList Tryz.prog ops Q (o :: rest) a w := by
  obtain ⟨i0, hi, hz0, hz1, hz2⟩ := info_parts info_sec
  subst hk
  refine wpList_append_fits w hgd s x 30 ho B 70 i0 4 Tryz.underlying30 hi hz1 g xs.length cap (xs.flatMap seC) hs hown ⟨b, 0, none⟩ 1 1 (seC y) hx (by rw [seC_len]) (fun j u hj => ?_) (seC_one y) hfit (fun w' h1 h2 => h w' ?_ h2)
  · rw [show (⟨b, 0, none⟩ : Addr).add j = ⟨b, j, none⟩ by unfold Addr.add; split <;> simp_all, hA.cell]
    exact hj
  · unfold OwnC
    rw [List.length_append, List.flatMap_append]
    simpa using h1
set_option maxRecDepth 100000 in
set_option maxHeartbeats 1000000 in
theorem impl_sescopy (xs : List SeL) (p : Option Addr) (c : Nat) (w : World) (hn : xs.length ≤ 1048576) (hw : ∀ x ∈ xs, x.r.size ≤ 1048576 ∧ x.s.size ≤ 1048576) (hR : RowC seC 4 w p xs) :
    Calls Tryz.prog 87 #[.slice p xs.length c] w fun e w' => (e = .returned (.slice (some ⟨w.heap.size, 0, none⟩) xs.length xs.length) ∧ OwnC seC w' w.heap.size 70 4 (.slice (some ⟨w.heap.size, 0, none⟩) xs.length xs.length) xs) ∧ Below w.heap.size w w' := by
  obtain ⟨n, hxn⟩ : ∃ n, xs.length = n := ⟨_, rfl⟩
  have HP := Lib.hid (fun W (h : Below w.heap.size w W) => hR.on h)
  have HW := Lib.hid hw
  have HN := Lib.hid hxn
  rw [hxn] at hn ⊢
  clear hR hw hxn
  obtain ⟨i0, hi, hz0, hz1, hz2⟩ := info_parts info_sec
  go_enter Tryz.func87, Tryz.ntmps87
  go_wp2_with (refine wpList_make_own _ rfl _ _ 30 rfl w.heap.size 70 i0 _ 4 Tryz.underlying30 hi hz0 hz1 .i64 .i64 _ n rfl rfl rfl (by rw [hz2]; omega) (by unfold maxLen; omega) (Nat.le_refl _) ?_; intro w1 ho1 hg1)
  have HV1 : Hid (OwnC seC w1 w.heap.size 70 4 (.slice (some ⟨w.heap.size, 0, none⟩) 0 n) []) := Lib.hid ho1
  have HB1 : Hid (Below w.heap.size w w1) := Lib.hid ((Below.refl _ _).grown hg1 (Nat.le_refl _) (fun k hk => by cases hk))
  clear ho1 hg1
  go_loopw [3, 10] (fun sq iq wr => ∃ k : Nat, k ≤ n ∧ iq = .int .i64 k ∧ sq = .slice (some ⟨w.heap.size, 0, none⟩) k n ∧ OwnC seC wr w.heap.size 70 4 (.slice (some ⟨w.heap.size, 0, none⟩) k n) (xs.take k) ∧ Below w.heap.size w wr) (fun _ i _ => n - (intOf i).toNat)
  case atStart => exact ⟨0, Nat.zero_le _, rfl, rfl, HV1.out, HB1.out⟩
  case round =>
    obtain ⟨k, hk, rfl, rfl, hv, hb⟩ := hrel
    have HV := Lib.hid hv
    have HB := Lib.hid hb
    clear hv
    by_cases hlt : k < n
    · have hlt1 : k < xs.length := by rw [HN.out]; exact hlt
      obtain ⟨g, rfl, hg, a0, a1, a2, a3⟩ := row_se4 (HP.out _ hb) hlt1
      have hxw := HW.out _ (List.getElem_mem hlt1)
      obtain ⟨x, hx⟩ : ∃ x, xs[k] = x := ⟨_, rfl⟩
      rw [hx] at a0 a1 a2 a3 hxw
      have i3 := fun W => impl_secopy x W hxw.1 hxw.2
      unfold seV at i3
      have HT : Hid (xs.take (k + 1) = xs.take k ++ [x]) := Lib.hid (by rw [List.take_succ_eq_append_getElem hlt1, hx])
      have HL : Hid ((xs.take k).length = k) := Lib.hid (by rw [List.length_take]; omega)
      clear hb hx hxw
      go_wp2_with (first
        | (at_builtin; have _ := HV2; refine app_fitS _ rfl _ _ rfl w.heap.size w.heap.size k n _ rfl (HV2.out.alloc _) HL.out w2.heap.size x rfl (Arr.fresh w2 70 (seC x)) (by omega) ?_; intro w3 hv3 hg3; have HV3 := Lib.hid hv3; have HG3 := Lib.hid hg3; clear hv3 hg3)
        | (go_at_call 109; go_fit (i3 _); rintro e w2 ⟨rfl, hb2⟩; have HV2 := Lib.hid (HV.out.on hb2); have HB2 := Lib.hid (HB.out.trans (hb2.mono HB.out.size)); clear hb2))
      go_roundw
      case rel => exact ⟨k + 1, by omega, by go_num, rfl, by rw [HT.out]; exact HV3.out, (HB2.out.alloc HB2.out.size _).grown HG3.out (HB2.out.alloc HB2.out.size _).size (fun k hk => by injection hk with hk; omega)⟩
      case measure => simp [intOf]; omega
    · obtain rfl : k = n := by omega
      have HT : Hid (xs.take k = xs) := Lib.hid (List.take_of_length_le (by rw [HN.out]; exact Nat.le_refl _))
      clear hb
      go_wp2
      go_ret
      exact ⟨⟨rfl, by have := HV.out; rw [HT.out] at this; exact this⟩, HB.out⟩
end Go.Proofs.YtpjmcpfmnlfmdaaGreat

namespace Go.Proofs.YtpjmcpfmnlfmdaaGreat
set_option linter.unusedSimpArgs false
set_option linter.unusedVariables false
open Go.RowKit Go.Joins

theorem here_lt {xs : List SeL} {r : ByteArray} (h : hereB r xs = true) : posS r xs < xs.length := by
  rcases Nat.lt_or_ge (posS r xs) xs.length with h1 | h1
  · exact h1
  · rw [here_end (by omega)] at h; cases h
theorem arr9_two {w : World} {b t : Nat} {a0 a1 : Value} (h : Arr w b t [a0, a1]) : (w.cell? ⟨b, 0, none⟩ = some a0 ∧ w.cell? ⟨b, 1, none⟩ = some a1) ∧ w.frozen? ⟨b, 0, none⟩ = false ∧ w.frozen? ⟨b, 1, none⟩ = false := ⟨⟨h.cell 0, h.cell 1⟩, h.free 0, h.free 1⟩
theorem arr9_lt {w : World} {b t : Nat} {cs : List Value} (h : Arr w b t cs) : b < w.heap.size := (Array.getElem?_eq_some_iff.1 h).1
/-- An element is stored. -/
def put9 (W : World) (g i : Nat) (y : SeL) : World := (((W.setCell ⟨g, i * 4, none⟩ (.string y.r)).setCell ⟨g, i * 4 + 1, none⟩ (.bool y.o)).setCell ⟨g, i * 4 + 2, none⟩ (.int .i64 y.p)).setCell ⟨g, i * 4 + 3, none⟩ (.string y.s)
end Go.Proofs.YtpjmcpfmnlfmdaaGreat

namespace Go.Proofs.YtpjmcpfmnlfmdaaGreat
set_option linter.unusedSimpArgs false
set_option linter.unusedVariables false
open Go.RowKit Go.Joins

theorem row_own9 {W : World} {B : Nat} {p : Option Addr} {k n : Nat} {xs : List SeL} (h : OwnC seC W B 70 4 (.slice p n k) xs) : RowC seC 4 W p xs := by
  obtain ⟨p', k', e, hR⟩ := h.row seC_len
  injection e with e1 e2 e3
  rw [e1]
  exact hR
theorem one_all9 (xs : List SeL) : ∀ u ∈ xs.flatMap seC, u.oneCell' = true := by
  intro u hu
  obtain ⟨x, _, hx⟩ := List.mem_flatMap.1 hu
  exact seC_one x u hx
theorem empty_row9 (W : World) : OwnC seC (W.alloc (.cells #[] 70)) W.heap.size 70 4 (.slice (some ⟨W.heap.size, 0, none⟩) 0 0) [] :=
  World.ownsRow_lit W #[] 0 (Nat.le_refl _) (Nat.zero_le _) rfl
/-- append(v, row...). -/
theorem wp_app_row9 {o : Oper} {a : Act} {w : World} {K : Act → World → Prop} {Q : Exit → Act → World → Prop} (s x : Operand)
    (ho : o.op = .call { callee := .builtin .append, args := #[s, x], argTypes := #[30, 30] })
    (B : Nat) (v : Value) (ys : List SeL) (hs : a.eval s = v) (hown : OwnC seC w B 70 4 v ys) (B2 : Nat) (p : Option Addr) (n c : Nat) (xs : List SeL) (hx : a.eval x = .slice p n c) (hrow : OwnC seC w B2 70 4 (.slice p n c) xs)
    (hlen : ys.length + xs.length ≤ 2000000) (hB : B ≤ w.heap.size) (h : ∀ v' w', OwnC seC w' B 70 4 v' (ys ++ xs) → w.grownBy w' v.ownBlock → K (a.put o.dst v') w') : o.wp Tryz.prog a w K Q := by
  obtain ⟨i0, hi, hz0, hz1, hz2⟩ := info_parts info_sec
  rcases hrow.2 with ⟨e, h0⟩ | ⟨g, cap, cur, e, h1, h2, h3, h4, h5, h6⟩
  · obtain rfl := List.eq_nil_of_length_eq_zero h0
    rw [e] at hx
    have hr := run_append_owned_none (P := Tryz.prog) (w := w) B 30 o.type 70 i0 4 Tryz.underlying30 hi v ys.length (ys.flatMap seC) hown
    rw [List.append_nil] at h
    unfold Oper.wp execOp
    simp only [ho, resolve, invoke, builtin, Sem.run_bind, Sem.run_pure, Result.andThen_ok, List.map_toArray, List.map_cons, List.map_nil, hs, hx, hr]
    exact h v w hown (World.grownBy.refl w _)
  · have hc := hrow
    rw [e] at hx hc
    refine wp_append_own w s x 30 ho B 70 i0 _ 4 48 Tryz.underlying30 hi hz0 hz1 hz2 rfl (by decide) v ys.length (ys.flatMap seC) hs hown ⟨g, 0, none⟩ xs.length cap (xs.flatMap seC) hx hc.1 (fun j u hj => ?_) (one_all9 xs) (by unfold maxLen; omega) (by omega) hB (fun v' w' h1 h2 _ => h v' w' ?_ h2)
    · have hlt : j < xs.length * 4 := by
        have := (List.getElem?_eq_some_iff.1 hj).1
        rw [hc.1] at this
        exact this
      have := World.ownsRow.cellAt hc j hlt
      rw [hj] at this
      rw [show (⟨g, 0, none⟩ : Addr).add j = ⟨g, j, none⟩ by unfold Addr.add; split <;> simp_all]
      exact this
    · show w'.ownsRow B _ 4 v' (ys ++ xs).length ((ys ++ xs).flatMap seC)
      rw [List.length_append, List.flatMap_append]
      exact h1
def NotAt (xs : List SeL) (r : ByteArray) (k : Nat) : Prop := ∀ i (h : i < xs.length), i < k → (xs[i].r.toList == r.toList) = false
def whereI (r : ByteArray) (xs : List SeL) : Int := if hereB r xs = true then (posS r xs : Int) else -1
set_option maxRecDepth 100000 in
set_option maxHeartbeats 1000000 in
theorem spec_at9 (xs : List SeL) (r : ByteArray) (p : Option Addr) (c : Nat) (w : World) (hn : xs.length ≤ 1048576) (hI : IncR xs xs.length) (hR : RowC seC 4 w p xs) :
    Calls Tryz.prog 40 #[.slice p xs.length c, .string r] w fun e w' => e = .returned (.int .i64 (whereI r xs)) ∧ Below w.heap.size w w' := by
  obtain ⟨n, hxn⟩ : ∃ n, xs.length = n := ⟨_, rfl⟩
  have HP := Lib.hid (fun W (h : Below w.heap.size w W) => hR.on h)
  have HN := Lib.hid hxn
  have HI := Lib.hid hI
  obtain ⟨Z, hZ⟩ : ∃ Z, whereI r xs = Z := ⟨_, rfl⟩
  have HZ := Lib.hid hZ
  rw [hxn] at hn ⊢
  rw [hZ]
  clear hR hxn hI hZ
  go_enter Tryz.func40, Tryz.ntmps40
  go_wp2
  go_loopw [5] (fun iq wr => ∃ k : Nat, k ≤ n ∧ iq = .int .i64 k ∧ NotAt xs r k ∧ Below w.heap.size w wr) (fun i _ => n - (intOf i).toNat)
  case atStart => exact ⟨0, Nat.zero_le _, rfl, fun i _ h => absurd h (Nat.not_lt_zero _), Below.refl _ _⟩
  case round =>
    obtain ⟨k, hk, rfl, hA, hb⟩ := hrel
    have HA := Lib.hid hA
    have HB := Lib.hid hb
    clear hA
    by_cases hlt : k < n
    · have hlt1 : k < xs.length := by rw [HN.out]; exact hlt
      obtain ⟨g, rfl, hg, a0, a1, a2, a3⟩ := row_se4 (HP.out _ hb) hlt1
      obtain ⟨x, hx⟩ : ∃ x, xs[k] = x := ⟨_, rfl⟩
      rw [hx] at a0 a1 a2 a3
      obtain ⟨b1, h1⟩ : ∃ b, (x.r.toList == r.toList) = b := ⟨_, rfl⟩
      have HX : Hid ((xs[k].r.toList == r.toList) = b1) := Lib.hid (by rw [hx]; exact h1)
      clear hb hx
      cases b1
      · go_wp2
        go_roundw
        case rel =>
          refine ⟨k + 1, by omega, by go_num, fun i hi h => ?_, HB.out⟩
          by_cases e : i = k
          · subst e; exact HX.out
          · exact HA.out i hi (by omega)
        case measure => simp [intOf]; omega
      · have HL : Hid ((k : Int) = Z) := Lib.hid (by
          obtain ⟨h2, h3⟩ := here_only (r := r) HI.out hlt1 (by simpa using HX.out)
          rw [← HZ.out]
          unfold whereI
          rw [if_pos h3, ← h2])
        go_wp2
        go_ret
        exact ⟨congrArg (fun z : Int => Ending.returned (.int .i64 z)) HL.out, HB.out⟩
    · have HL : Hid (Z = -1) := Lib.hid (by
        rw [← HZ.out]
        unfold whereI
        refine if_neg (fun h => ?_)
        have hp := here_lt h
        rw [here_at hp] at h
        rw [HA.out _ hp (by rw [HN.out] at hp; omega)] at h
        cases h)
      clear hb
      go_wp2
      go_ret
      exact ⟨congrArg (fun z : Int => Ending.returned (.int .i64 z)) HL.out.symm, HB.out⟩
theorem ba_eq {s t : ByteArray} (h : s.toList = t.toList) : s = t := by
  rw [ba_ext h, ByteArray.toList_eq]
theorem here_res {xs : List SeL} {r : ByteArray} (h1 : okB xs = true) (h2 : hereB r xs = true) : resB r = true := by
  have hlt := here_lt h2
  have h3 := (okB_iff.1 h1).2.2 _ hlt hlt
  rw [here_at hlt] at h2
  have e := ba_eq (show xs[posS r xs].r.toList = r.toList by simpa using h2)
  unfold seB at h3
  rw [e] at h3
  simp only [Bool.and_eq_true] at h3
  exact h3.1.1.2
end Go.Proofs.YtpjmcpfmnlfmdaaGreat
