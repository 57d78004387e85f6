/- Several parts in one text: MbRow, MbFrame, ArMsg, EqMsg, MbBits, RwMsg, MbCop, MbMath, MbRight, MbCopyS, MbOut, MbOut2, MbLawB, MbCopy, MbCopyI. -/
import Derived.Test.YtpjmcpfmnlfmdaaGreatQSeA
import Derived.Test.YtpjmcpfmnlfmdaaGreatQStA
import Derived.Test.YtpjmcpfmnlfmdaaGreatQBase
import Derived.Deep.MidRow
import Derived.Laws.CopyOwn
import Derived.Deep.DeepFit
import Derived.Deep.RegionHeld3
import Derived.Lib.SmallJoins
import Derived.Test.YtpjmcpfmnlfmdaaGreatQSeB
import Derived.Test.YtpjmcpfmnlfmdaaGreatQStC
namespace Go.Proofs.YtpjmcpfmnlfmdaaGreat
set_option linter.unusedSimpArgs false
set_option linter.unusedVariables false
open Go.ChangeShapes Go.WideShapes Go.ChangeAt Go.RowKit Go.Joins

/-- A stanza: kind, type, from, to, id, body. -/
structure MsL where
  k : ByteArray
  t : ByteArray
  f : ByteArray
  o : ByteArray
  n : Int
  b : ByteArray
instance : Inhabited MsL := ⟨⟨ByteArray.empty, ByteArray.empty, ByteArray.empty, ByteArray.empty, 0, ByteArray.empty⟩⟩
def msC (x : MsL) : List Value := [.string x.k, .string x.t, .string x.f, .string x.o, .int .i64 x.n, .string x.b]
def msV (x : MsL) : Value := .agg #[.string x.k, .string x.t, .string x.f, .string x.o, .int .i64 x.n, .string x.b]
theorem msC_len (x : MsL) : (msC x).length = 6 := rfl
theorem msC_one (x : MsL) : ∀ u ∈ msC x, u.oneCell' = true := by
  intro u hu
  simp [msC] at hu
  rcases hu with rfl | rfl | rfl | rfl | rfl | rfl <;> rfl
/-- Strings and numbers as the machine has them. -/
def MsL.wf (x : MsL) : Prop := x.k.size ≤ maxLen ∧ x.t.size ≤ maxLen ∧ x.f.size ≤ maxLen ∧ x.o.size ≤ maxLen ∧ (Lit.int .i64 x.n).wf = true ∧ x.b.size ≤ maxLen
/-- Texts that a law lets in. -/
def MsL.le (m : Nat) (x : MsL) : Prop := x.k.size ≤ m ∧ x.t.size ≤ m ∧ x.f.size ≤ m ∧ x.o.size ≤ m ∧ x.b.size ≤ m
theorem row_ms6 {w : World} {p : Option Addr} {xs : List MsL} (h : RowC msC 6 w p xs) {i : Nat} (hi : i < xs.length) : ∃ g, p = some ⟨g, 0, none⟩ ∧ g < w.heap.size ∧ w.cell? ⟨g, i * 6, none⟩ = some (.string xs[i].k) ∧ w.cell? ⟨g, i * 6 + 1, none⟩ = some (.string xs[i].t) ∧ w.cell? ⟨g, i * 6 + 2, none⟩ = some (.string xs[i].f) ∧ w.cell? ⟨g, i * 6 + 3, none⟩ = some (.string xs[i].o) ∧ w.cell? ⟨g, i * 6 + 4, none⟩ = some (.int .i64 xs[i].n) ∧ w.cell? ⟨g, i * 6 + 5, none⟩ = some (.string xs[i].b) := by
  obtain ⟨g, h1, h2, h3⟩ := h (List.ne_nil_of_length_pos (by omega))
  exact ⟨g, h1, h2, h3 i hi 0 (by decide), h3 i hi 1 (by decide), h3 i hi 2 (by decide), h3 i hi 3 (by decide), h3 i hi 4 (by decide), h3 i hi 5 (by decide)⟩
end Go.Proofs.YtpjmcpfmnlfmdaaGreat

namespace Go.Proofs.YtpjmcpfmnlfmdaaGreat
set_option linter.unusedSimpArgs false
set_option linter.unusedVariables false
open Go.ChangeShapes Go.WideShapes Go.ChangeAt Go.RowKit Go.Joins

/-- A slice of stanzas among the arguments. -/
def MsArg (W : World) (a : Option Addr) (len : Nat) (ps : List MsL) : Prop := ps.length = len ∧ len ≤ maxLen ∧ (∀ p ∈ ps, p.wf) ∧ RowA msC 6 W a ps
theorem MsArg.below {W W2 : World} {a : Option Addr} {len : Nat} {ps : List MsL} (h : MsArg W a len ps) (hb : Below W.heap.size W W2) : MsArg W2 a len ps := ⟨h.1, h.2.1, h.2.2.1, h.2.2.2.below hb⟩
theorem cellsSesS : Tryz.prog.cellsOf 22 = 1 := by kernel_rfl
theorem cellsMsS : Tryz.prog.cellsOf 23 = 1 := by kernel_rfl
theorem cellsMb : Tryz.prog.cellsOf 25 = 2 := by kernel_rfl
set_option maxRecDepth 100000 in
theorem ms_trod {H : Type} {enc : TypeId × Value → H} {W : World} {base : Nat} {sp : Nat → Bool} {held : Bool} {fuel : Nat} {c0 c1 c2 c3 c4 c5 : Value} {x : DataW H × List MemPlace}
    (hf : DataW.trod enc Tryz.prog W base sp held fuel 27 [c0, c1, c2, c3, c4, c5] = some x) : ∃ p : MsL, [c0, c1, c2, c3, c4, c5] = msC p ∧ p.wf := by
  obtain ⟨xs, m, _, hx, hl, hlen, hall⟩ := DataW.trod_struct Tryz.underlying27 hf
  match xs, hlen with
  | [y0, y1, y2, y3, y4, y5], _ =>
    have g0 := hall 0 _ rfl
    have g1 := hall 1 _ rfl
    have g2 := hall 2 _ rfl
    have g3 := hall 3 _ rfl
    have g4 := hall 4 _ rfl
    have g5 := hall 5 _ rfl
    simp [Value.cells, cellsStr9, cellsI649] at g0 g1 g2 g3 g4 g5
    obtain ⟨k, e0, _, w0⟩ := DataW.trod_string Tryz.underlying9 g0
    obtain ⟨t, e1, _, w1⟩ := DataW.trod_string Tryz.underlying9 g1
    obtain ⟨f, e2, _, w2⟩ := DataW.trod_string Tryz.underlying9 g2
    obtain ⟨o, e3, _, w3⟩ := DataW.trod_string Tryz.underlying9 g3
    obtain ⟨n, e4, _, w4⟩ := DataW.trod_int Tryz.underlying2 g4
    obtain ⟨b, e5, _, w5⟩ := DataW.trod_string Tryz.underlying9 g5
    simp at e0 e1 e2 e3 e4 e5
    subst e0 e1 e2 e3 e4 e5
    exact ⟨⟨k, t, f, o, n, b⟩, rfl, w0, w1, w2, w3, w4, w5⟩
theorem mapM_sixM {f : Nat → Option Value} {cs : List Value} (h : (List.range 6).mapM f = some cs) : ∃ c0 c1 c2 c3 c4 c5, cs = [c0, c1, c2, c3, c4, c5] ∧ f 0 = some c0 ∧ f 1 = some c1 ∧ f 2 = some c2 ∧ f 3 = some c3 ∧ f 4 = some c4 ∧ f 5 = some c5 := by
  rw [show List.range 6 = [0, 1, 2, 3, 4, 5] from rfl] at h
  simp only [List.mapM_cons, List.mapM_nil, Option.bind_eq_bind, Option.pure_def] at h
  cases h0 : f 0 with
  | none => rw [h0] at h; simp at h
  | some c0 =>
    cases h1 : f 1 with
    | none => rw [h0, h1] at h; simp at h
    | some c1 =>
      cases h2 : f 2 with
      | none => rw [h0, h1, h2] at h; simp at h
      | some c2 =>
        cases h3 : f 3 with
        | none => rw [h0, h1, h2, h3] at h; simp at h
        | some c3 =>
          cases h4 : f 4 with
          | none => rw [h0, h1, h2, h3, h4] at h; simp at h
          | some c4 =>
            cases h5 : f 5 with
            | none => rw [h0, h1, h2, h3, h4, h5] at h; simp at h
            | some c5 =>
              rw [h0, h1, h2, h3, h4, h5] at h
              simp at h
              exact ⟨c0, c1, c2, c3, c4, c5, h.symm, rfl, rfl, rfl, rfl, rfl, rfl⟩
theorem cells_sixM {W : World} {base : Nat} {a : Addr} {cs : List Value} (h : W.cells? base a 6 = some cs) : ∃ c0 c1 c2 c3 c4 c5, cs = [c0, c1, c2, c3, c4, c5] ∧ W.cell? (a.add 0) = some c0 ∧ W.cell? (a.add 1) = some c1 ∧ W.cell? (a.add 2) = some c2 ∧ W.cell? (a.add 3) = some c3 ∧ W.cell? (a.add 4) = some c4 ∧ W.cell? (a.add 5) = some c5 := by
  unfold World.cells? at h
  split at h
  · exact mapM_sixM h
  · cases h
set_option maxRecDepth 100000 in
theorem mss_trod {H : Type} {enc : TypeId × Value → H} {W : World} {base : Nat} {sp : Nat → Bool} {held : Bool} {fuel : Nat} {c : Value} {x : DataW H × List MemPlace}
    (hf : DataW.trod enc Tryz.prog W base sp held fuel 23 [c] = some x) : ∃ a len cap ps, c = .slice a len cap ∧ MsArg W a len ps := by
  rcases Deep.open_slice Tryz.underlying23 hf with ⟨hcs, _⟩ | ⟨a, len, cap, m, n, D, Pl, hcs, hb, hl, hm, hmm, hx, hall⟩
  · injection hcs with h1
    exact ⟨none, 0, 0, [], h1, rfl, Nat.zero_le _, fun p hp => (by cases hp), fun h => absurd rfl h⟩
  · injection hcs with h1
    have hlm : len ≤ m := by rw [hmm]; split <;> omega
    have each : ∀ i, i < len → ∃ p : MsL, p.wf ∧ ∀ j, j < 6 → W.cell? ((a.add (i * 6)).add j) = (msC p)[j]? := by
      intro i hi
      obtain ⟨cs', hc, ht⟩ := hall i (by omega)
      rw [cellsSt] at hc
      obtain ⟨c0, c1, c2, c3, c4, c5, rfl, e0, e1, e2, e3, e4, e5⟩ := cells_sixM hc
      obtain ⟨p, hp, hw⟩ := ms_trod ht
      refine ⟨p, hw, fun j hj => ?_⟩
      rw [← hp]
      match j, hj with
      | 0, _ => exact e0
      | 1, _ => exact e1
      | 2, _ => exact e2
      | 3, _ => exact e3
      | 4, _ => exact e4
      | 5, _ => exact e5
    obtain ⟨P, hP⟩ := Deep.choose_lt each
    refine ⟨some a, len, cap, (List.range len).map P, h1, by simp, by omega, fun p hp => ?_, fun hne => ?_⟩
    · obtain ⟨i, hi, rfl⟩ := List.mem_map.1 hp
      exact (hP i (List.mem_range.1 hi)).1
    · have h0 : 0 < len := by
        rcases Nat.eq_zero_or_pos len with h | h
        · subst h; exact absurd rfl hne
        · exact h
      have hc0 := (hP 0 h0).2 0 (by decide)
      simp only [Nat.zero_mul] at hc0
      have ha : W.cell? a = some (.string (P 0).k) := hc0
      have hap := addr_plainS ha
      refine ⟨a.block, a.off, by rw [← hap], ?_, fun i hi j hj => ?_⟩
      · exact block_lt_of_cell ha
      · have hi' : i < len := by simpa using hi
        have h2 := (hP i hi').2 j hj
        rw [Deep.add_add, hap] at h2
        simp only [List.getElem_map, List.getElem_range]
        rw [← h2]
        congr 1
        unfold Addr.add
        split
        · rename_i h3; rw [h3]; rfl
        · rfl
def mbV (a : Option Addr) (len cap : Nat) (b : Option Addr) (lenb capb : Nat) : Value := .agg #[.slice a len cap, .slice b lenb capb]
/-- A mailbox among the arguments. -/
def MbArg (W : World) (a : Option Addr) (len : Nat) (ps : List SeL) (b : Option Addr) (lenb : Nat) (qs : List MsL) : Prop := SsArg W a len ps ∧ MsArg W b lenb qs
theorem MbArg.below {W W2 : World} {a b : Option Addr} {len lenb : Nat} {ps : List SeL} {qs : List MsL} (h : MbArg W a len ps b lenb qs) (hb : Below W.heap.size W W2) : MbArg W2 a len ps b lenb qs := ⟨h.1.below hb, h.2.below hb⟩
set_option maxRecDepth 100000 in
theorem mb_open {H : Type} {enc : TypeId × Value → H} {W : World} {base : Nat} {sp : Nat → Bool} {held : Bool} {r : Reach} {b0 : Nat} {v : Value} {D : DataW H} {p : List MemPlace}
    (hv : Value.okWide Tryz.prog W r b0 25 v) (h : DataW.Trod enc Tryz.prog W base sp held 25 v D p) :
    ∃ a len cap ps b lenb capb qs, v = mbV a len cap b lenb capb ∧ MbArg W a len ps b lenb qs := by
  obtain ⟨cs, rfl, hsz⟩ := okWide_struct Tryz.underlying25 hv
  rw [cellsMb] at hsz
  obtain ⟨fuel, hf⟩ := h
  obtain ⟨xs, m, _, hx, hl, hlen, hall⟩ := DataW.trod_struct Tryz.underlying25 hf
  obtain ⟨l⟩ := cs
  match l, hsz, xs, hlen with
  | [c0, c1], _, [y0, y1], _ =>
    have g0 := hall 0 _ rfl
    have g1 := hall 1 _ rfl
    simp [Value.cells, cellsSesS, cellsMsS] at g0 g1
    obtain ⟨a, len, cap, ps, e0, w0⟩ := sesss_trod g0
    obtain ⟨b, lenb, capb, qs, e1, w1⟩ := mss_trod g1
    subst e0 e1
    exact ⟨a, len, cap, ps, b, lenb, capb, qs, rfl, w0, w1⟩
end Go.Proofs.YtpjmcpfmnlfmdaaGreat

namespace Go.Proofs.YtpjmcpfmnlfmdaaGreat
set_option linter.unusedSimpArgs false
set_option linter.unusedVariables false
open Go.RowKit

set_option maxHeartbeats 1000000 in
theorem sz_ms (x : MsL) (left : Int) (w : World) (h0 : (x.k).size ≤ 9223372036854775807) (h1 : (x.t).size ≤ 9223372036854775807) (h2 : (x.f).size ≤ 9223372036854775807) (h3 : (x.o).size ≤ 9223372036854775807) (h4 : (x.b).size ≤ 9223372036854775807) (l0 : 0 ≤ left) (l1 : left ≤ 1048576) :
    Calls Tryz.prog 7 #[.agg #[.string x.k, .string x.t, .string x.f, .string x.o, .int .i64 x.n, .string x.b], .int .i64 left] w fun e w' => (∃ z, e = .returned (.int .i64 z) ∧ (z = -1 ∨ 0 ≤ z ∧ z = left - (x.k).size - (x.t).size - (x.f).size - (x.o).size - (x.b).size)) ∧ Below w.heap.size w w' := by
  by_cases k0 : left - (x.k).size < 0
  · go_enter Tryz.func7, Tryz.ntmps7
    go_wp2
    all_goals (go_ret; exact ⟨⟨_, rfl, .inl rfl⟩, (Below.refl _ _).alloc (Nat.le_refl _) _⟩)
  by_cases k1 : left - (x.k).size - (x.t).size < 0
  · go_enter Tryz.func7, Tryz.ntmps7
    go_wp2
    all_goals (go_ret; exact ⟨⟨_, rfl, .inl rfl⟩, (Below.refl _ _).alloc (Nat.le_refl _) _⟩)
  by_cases k2 : left - (x.k).size - (x.t).size - (x.f).size < 0
  · go_enter Tryz.func7, Tryz.ntmps7
    go_wp2
    all_goals (go_ret; exact ⟨⟨_, rfl, .inl rfl⟩, (Below.refl _ _).alloc (Nat.le_refl _) _⟩)
  by_cases k3 : left - (x.k).size - (x.t).size - (x.f).size - (x.o).size < 0
  · go_enter Tryz.func7, Tryz.ntmps7
    go_wp2
    all_goals (go_ret; exact ⟨⟨_, rfl, .inl rfl⟩, (Below.refl _ _).alloc (Nat.le_refl _) _⟩)
  by_cases k4 : left - (x.k).size - (x.t).size - (x.f).size - (x.o).size - (x.b).size < 0
  · go_enter Tryz.func7, Tryz.ntmps7
    go_wp2
    all_goals (go_ret; exact ⟨⟨_, rfl, .inl rfl⟩, (Below.refl _ _).alloc (Nat.le_refl _) _⟩)
  go_enter Tryz.func7, Tryz.ntmps7
  go_wp2
  all_goals (go_ret; exact ⟨⟨_, rfl, .inr ⟨by omega, by omega⟩⟩, (Below.refl _ _).alloc (Nat.le_refl _) _⟩)
set_option maxHeartbeats 1000000 in
theorem to_ms (x : MsL) (w : World) : Calls Tryz.prog 10 #[.agg #[.string x.k, .string x.t, .string x.f, .string x.o, .int .i64 x.n, .string x.b]] w fun e w' => e = .returned (.agg #[.string x.k, .string x.t, .string x.f, .string x.o, .int .i64 x.n, .string x.b]) ∧ Below w.heap.size w w' := by
  go_enter Tryz.func10, Tryz.ntmps10
  go_wp2
  exact bodyPost_ret (v := .agg #[.string x.k, .string x.t, .string x.f, .string x.o, .int .i64 x.n, .string x.b]) (by simp [results, Tryz.results10, go_sem]) rfl ⟨rfl, (((Below.refl _ _).alloc (Nat.le_refl _) _).alloc (by simp) _).alloc (by simp; omega) _⟩
theorem rowA_ms {w : World} {p : Option Addr} {xs : List MsL} (h : RowA msC 6 w p xs) {i : Nat} (hi : i < xs.length) : ∃ g o, p = some ⟨g, o, none⟩ ∧ g < w.heap.size ∧ w.cell? ⟨g, o + i * 6, none⟩ = (msC xs[i])[0]? ∧ w.cell? ⟨g, o + i * 6 + 1, none⟩ = (msC xs[i])[1]? ∧ w.cell? ⟨g, o + i * 6 + 2, none⟩ = (msC xs[i])[2]? ∧ w.cell? ⟨g, o + i * 6 + 3, none⟩ = (msC xs[i])[3]? ∧ w.cell? ⟨g, o + i * 6 + 4, none⟩ = (msC xs[i])[4]? ∧ w.cell? ⟨g, o + i * 6 + 5, none⟩ = (msC xs[i])[5]? := by
  obtain ⟨g, o, h1, h2, h3⟩ := h (List.ne_nil_of_length_pos (by omega))
  refine ⟨g, o, h1, h2, ?_, ?_, ?_, ?_, ?_, ?_⟩
  · exact h3 i hi 0 (by decide)
  · have := h3 i hi 1 (by decide)
    rwa [← Nat.add_assoc] at this
  · have := h3 i hi 2 (by decide)
    rwa [← Nat.add_assoc] at this
  · have := h3 i hi 3 (by decide)
    rwa [← Nat.add_assoc] at this
  · have := h3 i hi 4 (by decide)
    rwa [← Nat.add_assoc] at this
  · have := h3 i hi 5 (by decide)
    rwa [← Nat.add_assoc] at this
def Sz_ms (x : MsL) : Prop := (x.k).size ≤ 9223372036854775807 ∧ (x.t).size ≤ 9223372036854775807 ∧ (x.f).size ≤ 9223372036854775807 ∧ (x.o).size ≤ 9223372036854775807 ∧ (x.b).size ≤ 9223372036854775807
def Le_ms (left : Int) (x : MsL) : Prop := ((x.k).size : Int) ≤ left ∧ ((x.t).size : Int) ≤ left ∧ ((x.f).size : Int) ≤ left ∧ ((x.o).size : Int) ≤ left ∧ ((x.b).size : Int) ≤ left
set_option maxRecDepth 100000 in
set_option maxHeartbeats 1000000 in
theorem szs_ms (xs : List MsL) (p : Option Addr) (cap : Nat) (left : Int) (w : World) (hl : xs.length ≤ 9223372036854775807) (hw : ∀ x ∈ xs, Sz_ms x) (l0 : 0 ≤ left) (l1 : left ≤ 1048576) (hR : RowA msC 6 w p xs) :
    Calls Tryz.prog 22 #[.slice p xs.length cap, .int .i64 left] w fun e w' => (∃ z, e = .returned (.int .i64 z) ∧ (z = -1 ∨ 0 ≤ z ∧ z ≤ left ∧ (xs.length : Int) ≤ left ∧ ∀ x ∈ xs, Le_ms left x)) ∧ Below w.heap.size w w' := by
  obtain ⟨n, hxn⟩ : ∃ n, xs.length = n := ⟨_, rfl⟩
  have HR := Lib.hid hR
  have HW := Lib.hid hw
  have HN := Lib.hid hxn
  rw [hxn] at hl ⊢
  clear hR hw hxn
  by_cases hbig : left < (n : Int)
  · go_enter Tryz.func22, Tryz.ntmps22
    go_wp2
    go_ret
    exact ⟨⟨_, rfl, .inl rfl⟩, Below.refl _ _⟩
  · go_enter Tryz.func22, Tryz.ntmps22
    go_wp2
    go_loopw [1, 5] (fun lq iq wr => ∃ (i : Nat) (l : Int), i ≤ n ∧ iq = .int .i64 i ∧ lq = .int .i64 l ∧ 0 ≤ l ∧ l ≤ left ∧ (∀ j (hj : j < xs.length), j < i → Le_ms left xs[j]) ∧ Below w.heap.size w wr) (fun _ i _ => n - (intOf i).toNat)
    case atStart => exact ⟨0, _, Nat.zero_le _, rfl, rfl, by omega, by omega, fun j _ hj => absurd hj (Nat.not_lt_zero _), Below.refl _ _⟩
    case round =>
      obtain ⟨i, l, hi, rfl, rfl, hl0, hl1, hall, hb⟩ := hrel
      have HA := Lib.hid hall
      have HB := Lib.hid hb
      by_cases hlt : i < n
      · have hlt' : i < xs.length := by rw [HN.out]; exact hlt
        obtain ⟨g, o, rfl, hg, a0, a1, a2, a3, a4, a5⟩ := rowA_ms (HR.out.below hb) hlt'
        obtain ⟨x, hx⟩ : ∃ x, xs[i] = x := ⟨_, rfl⟩
        have hxw := HW.out _ (List.getElem_mem hlt')
        have HX := Lib.hid hx
        rw [hx] at a0 a1 a2 a3 a4 a5 hxw
        unfold msC at a0 a1 a2 a3 a4 a5
        simp only [List.getElem?_cons_zero, List.getElem?_cons_succ] at a0 a1 a2 a3 a4 a5
        unfold Sz_ms at hxw
        clear hall hb hx
        go_wp2_with (go_at_call 7; go_fit (sz_ms x _ _ (by omega) (by omega) (by omega) (by omega) (by omega) (by omega) (by omega)); (rintro e w1 ⟨⟨z, rfl, hz⟩, hb1⟩); (rcases hz with rfl | ⟨hz0, hz1⟩))
        · go_ret
          exact ⟨⟨_, rfl, .inl rfl⟩, HB.out.trans (hb1.mono HB.out.size)⟩
        · go_roundw
          case rel =>
            refine ⟨i + 1, _, by omega, by go_num, rfl, by omega, by omega, fun j hj hji => ?_, HB.out.trans (hb1.mono HB.out.size)⟩
            by_cases e : j = i
            · subst e
              rw [HX.out]
              unfold Le_ms
              omega
            · exact HA.out j hj (by omega)
          case measure => simp [intOf]; omega
      · obtain rfl : i = n := by omega
        go_wp2
        go_ret
        refine ⟨⟨_, rfl, .inr ⟨hl0, hl1, by omega, fun x hx => ?_⟩⟩, HB.out⟩
        obtain ⟨j, hj, rfl⟩ := List.mem_iff_getElem.1 hx
        exact HA.out j hj (by rw [← HN.out]; exact hj)
/-- So many elements have been copied. -/
def Cop_ms (xs : List MsL) (g n i : Nat) (W : World) : Prop := ∃ L, Arr W g 35 L ∧ L.length = n * 6 ∧ ∀ i' (h : i' < xs.length), i' < i → ∀ j, j < 6 → L[i' * 6 + j]? = (msC xs[i'])[j]?
theorem Cop_ms.on {xs : List MsL} {g n i : Nat} {W W2 : World} (h : Cop_ms xs g n i W) (hb : Below W.heap.size W W2) : Cop_ms xs g n i W2 := by
  obtain ⟨L, h1, h2⟩ := h
  exact ⟨L, (hb.block g (Array.getElem?_eq_some_iff.1 h1).1).trans h1, h2⟩
theorem Cop_ms.there {xs : List MsL} {g n i q : Nat} {W : World} (h : Cop_ms xs g n i W) (hq : q < n * 6) : (∃ u, W.cell? ⟨g, q, none⟩ = some u) ∧ W.frozen? ⟨g, q, none⟩ = false := by
  obtain ⟨L, h1, h2, _⟩ := h
  rw [h1.cell, h1.free]
  exact ⟨⟨L[q]'(by omega), List.getElem?_eq_getElem _⟩, rfl⟩
theorem Cop_ms.step {xs : List MsL} {g n i : Nat} {W : World} (h : Cop_ms xs g n i W) (hi : i < n) {x : MsL} (hx : xs[i]? = some x) : Cop_ms xs g n (i + 1) ((((((W.setCell ⟨g, i * 6, none⟩ (.string x.k)).setCell ⟨g, i * 6 + 1, none⟩ (.string x.t)).setCell ⟨g, i * 6 + 2, none⟩ (.string x.f)).setCell ⟨g, i * 6 + 3, none⟩ (.string x.o)).setCell ⟨g, i * 6 + 4, none⟩ (.int .i64 x.n)).setCell ⟨g, i * 6 + 5, none⟩ (.string x.b)) := by
  obtain ⟨L, h1, h2, h3⟩ := h
  refine ⟨_, (((((h1.put (i * 6) _).put (i * 6 + 1) _).put (i * 6 + 2) _).put (i * 6 + 3) _).put (i * 6 + 4) _).put (i * 6 + 5) _, by simpa using h2, fun i' hi' hlt j hj => ?_⟩
  by_cases e : i' = i
  · subst e
    have ex : xs[i'] = x := by rw [List.getElem?_eq_getElem hi'] at hx; exact Option.some.inj hx
    rw [ex]
    match j, hj with
    | 0, _ => rw [show i' * 6 + 0 = i' * 6 from rfl]; rw [List.getElem?_set_ne (by omega)]; rw [List.getElem?_set_ne (by omega)]; rw [List.getElem?_set_ne (by omega)]; rw [List.getElem?_set_ne (by omega)]; rw [List.getElem?_set_ne (by omega)]; rw [List.getElem?_set_self (by first | omega | (simp; omega))]; rfl
    | 1, _ => rw [List.getElem?_set_ne (by omega)]; rw [List.getElem?_set_ne (by omega)]; rw [List.getElem?_set_ne (by omega)]; rw [List.getElem?_set_ne (by omega)]; rw [List.getElem?_set_self (by first | omega | (simp; omega))]; rfl
    | 2, _ => rw [List.getElem?_set_ne (by omega)]; rw [List.getElem?_set_ne (by omega)]; rw [List.getElem?_set_ne (by omega)]; rw [List.getElem?_set_self (by first | omega | (simp; omega))]; rfl
    | 3, _ => rw [List.getElem?_set_ne (by omega)]; rw [List.getElem?_set_ne (by omega)]; rw [List.getElem?_set_self (by first | omega | (simp; omega))]; rfl
    | 4, _ => rw [List.getElem?_set_ne (by omega)]; rw [List.getElem?_set_self (by first | omega | (simp; omega))]; rfl
    | 5, _ => rw [List.getElem?_set_self (by first | omega | (simp; omega))]; rfl
  · have := h3 i' hi' (by omega) j hj
    rw [List.getElem?_set_ne (by omega), List.getElem?_set_ne (by omega), List.getElem?_set_ne (by omega), List.getElem?_set_ne (by omega), List.getElem?_set_ne (by omega), List.getElem?_set_ne (by omega)]
    exact this
theorem Cop_ms.own {xs : List MsL} {g n B : Nat} {W : World} (h : Cop_ms xs g n n W) (hn : xs.length = n) (hB : B ≤ g) (hm : n ≤ 1048576) : OwnC msC W B 35 6 (.slice (some ⟨g, 0, none⟩) n n) xs := by
  obtain ⟨L, h1, h2, h3⟩ := h
  have e : L = xs.flatMap msC := by
    apply List.ext_getElem?
    intro q
    by_cases hq : q < n * 6
    · have h4 := h3 (q / 6) (by rw [hn]; omega) (by omega) (q % 6) (by omega)
      rw [show q / 6 * 6 + q % 6 = q by omega] at h4
      rw [h4]
      have h5 := flat_at (enc := msC) (size := 6) (fun _ => rfl) xs (q / 6) (q % 6) (by rw [hn]; omega) (by omega)
      rw [show q / 6 * 6 + q % 6 = q by omega] at h5
      exact h5.symm
    · rw [List.getElem?_eq_none (by omega), List.getElem?_eq_none]
      rw [flat_len (enc := msC) (size := 6) (fun _ => rfl), hn]
      omega
  refine ⟨by rw [flat_len (enc := msC) (size := 6) (fun _ => rfl)], .inr ⟨g, n, L.toArray, by rw [hn], hB, h1, by omega, by unfold maxLen; omega, by simpa using h2, ?_⟩⟩
  rw [← e, List.take_of_length_le (by simp; rw [h2, hn]; omega)]
theorem cop_ms_start {xs : List MsL} {w w1 : World} {z : Array Value} {n B : Nat} (h : w1.ownsRow B 35 6 (.slice (some ⟨w.heap.size, 0, none⟩) n n) n (madeCells z (n * 6)).toList) : Cop_ms xs w.heap.size n 0 w1 := by
  rcases h.2 with ⟨h0, _⟩ | ⟨g, cap, cur, h1, h2, h3, h4, h5, h6, h7⟩
  · cases h0
  · injection h1 with e1 e2 e3
    injection e1 with e1
    injection e1 with e1
    subst e1 e3
    exact ⟨cur.toList, h3, by simpa using h6, fun i' _ hi' => absurd hi' (Nat.not_lt_zero _)⟩
theorem info_ms : (Tryz.prog.info? 35).map (fun i => (i.zero, i.size, i.bytes)) = some (some (.agg #[.string ⟨#[]⟩, .string ⟨#[]⟩, .string ⟨#[]⟩, .string ⟨#[]⟩, .int .i64 0, .string ⟨#[]⟩]), 6, 88) := by kernel_rfl
set_option maxRecDepth 100000 in
set_option maxHeartbeats 1000000 in
theorem tos_ms (xs : List MsL) (p : Option Addr) (cap : Nat) (w : World) (hl : xs.length ≤ 1048576) (hR : RowA msC 6 w p xs) :
    Calls Tryz.prog 28 #[.slice p xs.length cap] w fun e w' => (∃ v, e = .returned v ∧ OwnC msC w' w.heap.size 35 6 v xs) ∧ Below w.heap.size w w' := by
  obtain ⟨n, hxn⟩ : ∃ n, xs.length = n := ⟨_, rfl⟩
  have HR := Lib.hid hR
  have HN := Lib.hid hxn
  rw [hxn] at hl ⊢
  clear hR hxn
  obtain ⟨i0, hi, hz0, hz1, hz2⟩ := info_parts info_ms
  go_enter Tryz.func28, Tryz.ntmps28
  go_wp2_with (refine wpList_make_full _ rfl (.tmp 6) (.tmp 6) 31 rfl w.heap.size 35 i0 (.agg #[.string ⟨#[]⟩, .string ⟨#[]⟩, .string ⟨#[]⟩, .string ⟨#[]⟩, .int .i64 0, .string ⟨#[]⟩]) 6 Tryz.underlying31 hi hz0 hz1 .i64 .i64 _ _ n rfl rfl rfl rfl (by rw [hz2]; omega) (by unfold maxLen; omega) (Nat.le_refl _) ?_; intro w1 ho1 hg1)
  have HC0 : Hid (Cop_ms xs w.heap.size n 0 w1) := Lib.hid (cop_ms_start ho1)
  have HB0 : Hid (Below w.heap.size w w1) := Lib.hid ((Below.refl _ _).grown hg1 (Nat.le_refl _) (fun k hk => by cases hk))
  have hsz0 := HB0.out.size
  have hgz : w.heap.size < w1.heap.size := (ho1.lt w.heap.size rfl).2
  clear ho1 hg1
  go_loopw [4] (fun iq wr => ∃ i : Nat, i ≤ n ∧ iq = .int .i64 i ∧ Cop_ms xs w.heap.size n i wr ∧ Below w.heap.size w wr) (fun i _ => n - (intOf i).toNat)
  case atStart => exact ⟨0, Nat.zero_le _, rfl, HC0.out, HB0.out⟩
  case round =>
    obtain ⟨i, hi', rfl, hC, hb⟩ := hrel
    have HC := Lib.hid hC
    have HB := Lib.hid hb
    by_cases hlt : i < n
    · have hlt' : i < xs.length := by rw [HN.out]; exact hlt
      obtain ⟨g, o, rfl, hg, a0, a1, a2, a3, a4, a5⟩ := rowA_ms HR.out hlt'
      obtain ⟨x, hx⟩ : ∃ x, xs[i] = x := ⟨_, rfl⟩
      have HX : Hid (xs[i]? = some x) := Lib.hid (by rw [List.getElem?_eq_getElem hlt', hx])
      rw [hx] at a0 a1 a2 a3 a4 a5
      replace a0 := (hb.cell (p := ⟨g, o + i * 6, none⟩) hg).trans a0; replace a1 := (hb.cell (p := ⟨g, o + i * 6 + 1, none⟩) hg).trans a1; replace a2 := (hb.cell (p := ⟨g, o + i * 6 + 2, none⟩) hg).trans a2; replace a3 := (hb.cell (p := ⟨g, o + i * 6 + 3, none⟩) hg).trans a3; replace a4 := (hb.cell (p := ⟨g, o + i * 6 + 4, none⟩) hg).trans a4; replace a5 := (hb.cell (p := ⟨g, o + i * 6 + 5, none⟩) hg).trans a5
      unfold msC at a0 a1 a2 a3 a4 a5
      simp only [List.getElem?_cons_zero, List.getElem?_cons_succ] at a0 a1 a2 a3 a4 a5
      clear hb hC hx
      go_wp2_with (go_at_call 10; go_fit (to_ms x _); rintro e w2 ⟨rfl, hb2⟩; have HC1 := Lib.hid (HC.out.on hb2); have HB1 := Lib.hid (HB.out.trans (hb2.mono HB.out.size)); clear hb2; obtain ⟨⟨v0, d0⟩, f0⟩ := HC1.out.there (q := i * 6) (by omega); obtain ⟨⟨v1, d1⟩, f1⟩ := HC1.out.there (q := i * 6 + 1) (by omega); obtain ⟨⟨v2, d2⟩, f2⟩ := HC1.out.there (q := i * 6 + 2) (by omega); obtain ⟨⟨v3, d3⟩, f3⟩ := HC1.out.there (q := i * 6 + 3) (by omega); obtain ⟨⟨v4, d4⟩, f4⟩ := HC1.out.there (q := i * 6 + 4) (by omega); obtain ⟨⟨v5, d5⟩, f5⟩ := HC1.out.there (q := i * 6 + 5) (by omega))
      go_roundw
      case rel => exact ⟨i + 1, by omega, by go_num, HC1.out.step hlt HX.out, (((((HB1.out.setCell (p := ⟨w.heap.size, i * 6, none⟩) (Nat.le_refl _) _).setCell (p := ⟨w.heap.size, i * 6 + 1, none⟩) (Nat.le_refl _) _).setCell (p := ⟨w.heap.size, i * 6 + 2, none⟩) (Nat.le_refl _) _).setCell (p := ⟨w.heap.size, i * 6 + 3, none⟩) (Nat.le_refl _) _).setCell (p := ⟨w.heap.size, i * 6 + 4, none⟩) (Nat.le_refl _) _).setCell (p := ⟨w.heap.size, i * 6 + 5, none⟩) (Nat.le_refl _) _⟩
      case measure => simp [intOf]; omega
    · obtain rfl : i = n := by omega
      go_wp2
      go_ret
      exact ⟨⟨_, rfl, HC.out.own HN.out (Nat.le_refl _) hl⟩, HB.out⟩
end Go.Proofs.YtpjmcpfmnlfmdaaGreat

namespace Go.Proofs.YtpjmcpfmnlfmdaaGreat
set_option linter.unusedSimpArgs false
set_option linter.unusedVariables false
open Go.RowKit

set_option maxRecDepth 100000 in
set_option maxHeartbeats 1000000 in
theorem eq_ms (x : MsL) (w : World) : Calls Tryz.prog 32 #[.agg #[.string x.k, .string x.t, .string x.f, .string x.o, .int .i64 x.n, .string x.b], .agg #[.string x.k, .string x.t, .string x.f, .string x.o, .int .i64 x.n, .string x.b]] w fun e w' => e = .returned (.bool true) ∧ Below w.heap.size w w' := by
  go_enter Tryz.func32, Tryz.ntmps32
  go_wp2
  go_ret
  exact ⟨rfl, ((Below.refl _ _).alloc (Nat.le_refl _) _).alloc (by simp) _⟩
abbrev Both_ms (a b i : Nat) (x : MsL) (wr W : World) : Prop := ((W.cell? ⟨a, i * 6, none⟩ = some (.string x.k) ∧ W.cell? ⟨a, i * 6 + 1, none⟩ = some (.string x.t) ∧ W.cell? ⟨a, i * 6 + 2, none⟩ = some (.string x.f) ∧ W.cell? ⟨a, i * 6 + 3, none⟩ = some (.string x.o) ∧ W.cell? ⟨a, i * 6 + 4, none⟩ = some (.int .i64 x.n) ∧ W.cell? ⟨a, i * 6 + 5, none⟩ = some (.string x.b)) ∧ (W.cell? ⟨b, i * 6, none⟩ = some (.string x.k) ∧ W.cell? ⟨b, i * 6 + 1, none⟩ = some (.string x.t) ∧ W.cell? ⟨b, i * 6 + 2, none⟩ = some (.string x.f) ∧ W.cell? ⟨b, i * 6 + 3, none⟩ = some (.string x.o) ∧ W.cell? ⟨b, i * 6 + 4, none⟩ = some (.int .i64 x.n) ∧ W.cell? ⟨b, i * 6 + 5, none⟩ = some (.string x.b))) ∧ (Below wr.heap.size wr W ∧ a < wr.heap.size ∧ b < wr.heap.size)
theorem both_ms_on {a b i : Nat} {x : MsL} {wr W W2 : World} (h : Both_ms a b i x wr W) (hb : Below W.heap.size W W2) : Both_ms a b i x wr W2 := by
  obtain ⟨⟨⟨c0, c1, c2, c3, c4, c5⟩, d0, d1, d2, d3, d4, d5⟩, h1, h2, h3⟩ := h
  have ha : a < W.heap.size := Nat.lt_of_lt_of_le h2 h1.size
  have hb0 : b < W.heap.size := Nat.lt_of_lt_of_le h3 h1.size
  exact ⟨⟨⟨(hb.cell (p := ⟨a, i * 6, none⟩) ha).trans c0, (hb.cell (p := ⟨a, i * 6 + 1, none⟩) ha).trans c1, (hb.cell (p := ⟨a, i * 6 + 2, none⟩) ha).trans c2, (hb.cell (p := ⟨a, i * 6 + 3, none⟩) ha).trans c3, (hb.cell (p := ⟨a, i * 6 + 4, none⟩) ha).trans c4, (hb.cell (p := ⟨a, i * 6 + 5, none⟩) ha).trans c5⟩, (hb.cell (p := ⟨b, i * 6, none⟩) hb0).trans d0, (hb.cell (p := ⟨b, i * 6 + 1, none⟩) hb0).trans d1, (hb.cell (p := ⟨b, i * 6 + 2, none⟩) hb0).trans d2, (hb.cell (p := ⟨b, i * 6 + 3, none⟩) hb0).trans d3, (hb.cell (p := ⟨b, i * 6 + 4, none⟩) hb0).trans d4, (hb.cell (p := ⟨b, i * 6 + 5, none⟩) hb0).trans d5⟩, h1.trans (hb.mono h1.size), h2, h3⟩
theorem both_ms_drew {a b i : Nat} {x : MsL} {wr W : World} (h : Both_ms a b i x wr W) : Both_ms a b i x wr W.drew := both_ms_on h (Below.refl _ _).drew
theorem row_ms {w : World} {p : Option Addr} {xs : List MsL} (h : RowC msC 6 w p xs) {i : Nat} (hi : i < xs.length) : ∃ g, p = some ⟨g, 0, none⟩ ∧ g < w.heap.size ∧ w.cell? ⟨g, i * 6, none⟩ = (msC xs[i])[0]? ∧ w.cell? ⟨g, i * 6 + 1, none⟩ = (msC xs[i])[1]? ∧ w.cell? ⟨g, i * 6 + 2, none⟩ = (msC xs[i])[2]? ∧ w.cell? ⟨g, i * 6 + 3, none⟩ = (msC xs[i])[3]? ∧ w.cell? ⟨g, i * 6 + 4, none⟩ = (msC xs[i])[4]? ∧ w.cell? ⟨g, i * 6 + 5, none⟩ = (msC xs[i])[5]? := by
  obtain ⟨g, h1, h2, h3⟩ := h (List.ne_nil_of_length_pos (by omega))
  exact ⟨g, h1, h2, h3 i hi 0 (by decide), h3 i hi 1 (by decide), h3 i hi 2 (by decide), h3 i hi 3 (by decide), h3 i hi 4 (by decide), h3 i hi 5 (by decide)⟩
set_option maxRecDepth 100000 in
set_option maxHeartbeats 2000000 in
theorem eqs_ms (xs : List MsL) (p q : Option Addr) (c d : Nat) (w : World) (hn : xs.length ≤ 2000000) (hp : RowC msC 6 w p xs) (hq : RowC msC 6 w q xs) :
    Calls Tryz.prog 34 #[.slice p xs.length c, .slice q xs.length d] w fun e w' => e = .returned (.bool true) ∧ Below w.heap.size w w' := by
  obtain ⟨n, hxn⟩ : ∃ n, xs.length = n := ⟨_, rfl⟩
  have HP := Lib.hid hp
  have HQ := Lib.hid hq
  have HN := Lib.hid hxn
  rw [hxn] at hn ⊢
  clear hp hq hxn
  go_enter Tryz.func34, Tryz.ntmps34
  go_wp2
  go_loopw [5] (fun iq wr => ∃ i : Nat, i ≤ n ∧ iq = .int .i64 i ∧ Below w.heap.size w wr) (fun i _ => n - (intOf i).toNat)
  case atStart => exact ⟨0, Nat.zero_le _, rfl, Below.refl _ _⟩
  case round =>
    obtain ⟨i, hi, rfl, hb⟩ := hrel
    have HB := Lib.hid hb
    by_cases hlt : i < n
    · obtain ⟨a, rfl, ha, a0, a1, a2, a3, a4, a5⟩ := row_ms HP.out (i := i) (by rw [HN.out]; exact hlt)
      obtain ⟨b, rfl, hb0, b0, b1, b2, b3, b4, b5⟩ := row_ms HQ.out (i := i) (by rw [HN.out]; exact hlt)
      obtain ⟨x, hx⟩ : ∃ x, xs[i]'(by rw [HN.out]; exact hlt) = x := ⟨_, rfl⟩
      rw [hx] at a0 b0 a1 b1 a2 b2 a3 b3 a4 b4 a5 b5
      have HS : Hid (Both_ms a b i x wr wr) := Lib.hid ⟨⟨⟨(hb.cell (p := ⟨a, i * 6, none⟩) ha).trans a0, (hb.cell (p := ⟨a, i * 6 + 1, none⟩) ha).trans a1, (hb.cell (p := ⟨a, i * 6 + 2, none⟩) ha).trans a2, (hb.cell (p := ⟨a, i * 6 + 3, none⟩) ha).trans a3, (hb.cell (p := ⟨a, i * 6 + 4, none⟩) ha).trans a4, (hb.cell (p := ⟨a, i * 6 + 5, none⟩) ha).trans a5⟩, (hb.cell (p := ⟨b, i * 6, none⟩) hb0).trans b0, (hb.cell (p := ⟨b, i * 6 + 1, none⟩) hb0).trans b1, (hb.cell (p := ⟨b, i * 6 + 2, none⟩) hb0).trans b2, (hb.cell (p := ⟨b, i * 6 + 3, none⟩) hb0).trans b3, (hb.cell (p := ⟨b, i * 6 + 4, none⟩) hb0).trans b4, (hb.cell (p := ⟨b, i * 6 + 5, none⟩) hb0).trans b5⟩, Below.refl _ _, Nat.lt_of_lt_of_le ha hb.size, Nat.lt_of_lt_of_le hb0 hb.size⟩
      clear hb a0 b0 a1 b1 a2 b2 a3 b3 a4 b4 a5 b5 hx ha hb0
      go_wp2
      go_region_held3 (fun W => ((W.cell? ⟨a, i * 6, none⟩ = some (.string x.k) ∧ W.cell? ⟨a, i * 6 + 1, none⟩ = some (.string x.t) ∧ W.cell? ⟨a, i * 6 + 2, none⟩ = some (.string x.f) ∧ W.cell? ⟨a, i * 6 + 3, none⟩ = some (.string x.o) ∧ W.cell? ⟨a, i * 6 + 4, none⟩ = some (.int .i64 x.n) ∧ W.cell? ⟨a, i * 6 + 5, none⟩ = some (.string x.b)) ∧ (W.cell? ⟨b, i * 6, none⟩ = some (.string x.k) ∧ W.cell? ⟨b, i * 6 + 1, none⟩ = some (.string x.t) ∧ W.cell? ⟨b, i * 6 + 2, none⟩ = some (.string x.f) ∧ W.cell? ⟨b, i * 6 + 3, none⟩ = some (.string x.o) ∧ W.cell? ⟨b, i * 6 + 4, none⟩ = some (.int .i64 x.n) ∧ W.cell? ⟨b, i * 6 + 5, none⟩ = some (.string x.b))) ∧ (Below wr.heap.size wr W ∧ a < wr.heap.size ∧ b < wr.heap.size))
        (with_reducible first | assumption | exact both_ms_drew HS.out | exact both_ms_on (by assumption) hbN)
        (first | (go_at_call 32; go_fit (eq_ms x _); rintro e wn ⟨rfl, hbN⟩; have HF := Lib.hid (both_ms_on (i := i) (wr := wr) (by assumption) hbN)))
      go_wp2
      go_roundw
      case rel => exact ⟨i + 1, by omega, by go_num, HB.out.trans (HF.out.2.1.mono HB.out.size)⟩
      case measure => simp [intOf]; omega
    · obtain rfl : i = n := by omega
      go_wp2
      go_ret
      exact ⟨rfl, HB.out⟩
end Go.Proofs.YtpjmcpfmnlfmdaaGreat

namespace Go.Proofs.YtpjmcpfmnlfmdaaGreat
set_option linter.unusedSimpArgs false
set_option linter.unusedVariables false
open Go.RowKit Go.Joins

def SzS (xs : List SeL) : Prop := ∀ x ∈ xs, x.r.size ≤ 1048576 ∧ x.s.size ≤ 1048576
def SzM (ys : List MsL) : Prop := ∀ y ∈ ys, y.le 1048576
theorem sz_argM {w : World} {a : Option Addr} {len cap : Nat} {xs : List SeL} (x0 : SsArg w a len xs) (W : World) (hb : Below w.heap.size w W) :
    Calls Tryz.prog 21 #[.slice a len cap, .int .i64 1048576] W fun e w' => (∃ z, e = .returned (.int .i64 z) ∧ (z = -1 ∨ (0 ≤ z ∧ z ≤ 1048576) ∧ len ≤ 1048576 ∧ SzS xs)) ∧ Below W.heap.size W w' := by
  obtain ⟨rfl, h2, h3, h4⟩ := x0
  refine (szs_se xs a cap 1048576 W (by unfold maxLen at h2; omega) (fun x hx => ?_) (by omega) (by omega) (h4.below hb)).mono ?_
  · have := h3 x hx
    unfold SeL.wf maxLen at this
    exact ⟨by omega, by omega⟩
  · rintro e w' ⟨⟨z, rfl, hz⟩, hb'⟩
    refine ⟨⟨z, rfl, ?_⟩, hb'⟩
    rcases hz with h | ⟨h5, h6, h7, h8⟩
    · exact .inl h
    · exact .inr ⟨⟨h5, h6⟩, by omega, fun x hx => by have := h8 x hx; unfold Le_se at this; omega⟩
theorem szk_arg {w : World} {a : Option Addr} {len cap : Nat} {ys : List MsL} (x0 : MsArg w a len ys) (left : Int) (l0 : 0 ≤ left) (l1 : left ≤ 1048576) (W : World) (hb : Below w.heap.size w W) :
    Calls Tryz.prog 22 #[.slice a len cap, .int .i64 left] W fun e w' => (∃ z, e = .returned (.int .i64 z) ∧ (z = -1 ∨ (0 ≤ z ∧ z ≤ 1048576) ∧ len ≤ 1048576 ∧ SzM ys)) ∧ Below W.heap.size W w' := by
  obtain ⟨rfl, h2, h3, h4⟩ := x0
  refine (szs_ms ys a cap left W (by unfold maxLen at h2; omega) (fun x hx => ?_) l0 l1 (h4.below hb)).mono ?_
  · have := h3 x hx
    unfold MsL.wf maxLen at this
    exact ⟨by omega, by omega, by omega, by omega, by omega⟩
  · rintro e w' ⟨⟨z, rfl, hz⟩, hb'⟩
    refine ⟨⟨z, rfl, ?_⟩, hb'⟩
    rcases hz with h | ⟨h5, h6, h7, h8⟩
    · exact .inl h
    · exact .inr ⟨⟨h5, by omega⟩, by omega, fun x hx => by have := h8 x hx; unfold Le_ms at this; unfold MsL.le; omega⟩
theorem own_lenM {w : World} {B e size n : Nat} {v : Value} {ys : List MsL} (h : OwnC msC w B e size v ys) (hn : ys.length = n) : ∃ p k, v = .slice p n k := by
  subst hn
  rcases h.2 with ⟨h0, h1⟩ | ⟨g, cap, cur, h1, _⟩
  · exact ⟨none, 0, by rw [h0, h1]⟩
  · exact ⟨_, _, h1⟩
theorem tok_arg {w : World} {a : Option Addr} {len cap : Nat} {ys : List MsL} (x0 : MsArg w a len ys) (hl : len ≤ 1048576) (W : World) (hb : Below w.heap.size w W) :
    Calls Tryz.prog 28 #[.slice a len cap] W fun e w' => (∃ p k, e = .returned (.slice p len k) ∧ OwnC msC w' W.heap.size 35 6 (.slice p len k) ys) ∧ Below W.heap.size W w' := by
  obtain ⟨rfl, h2, h3, h4⟩ := x0
  refine (tos_ms ys a cap W hl (h4.below hb)).mono ?_
  rintro e w' ⟨⟨v, rfl, ho⟩, hb'⟩
  obtain ⟨p, k, rfl⟩ := own_lenM ho rfl
  exact ⟨⟨p, k, rfl, ho⟩, hb'⟩
theorem row_ownM {W : World} {B : Nat} {p : Option Addr} {k n : Nat} {ys : List MsL} (h : OwnC msC W B 35 6 (.slice p n k) ys) : RowC msC 6 W p ys := by
  obtain ⟨p', k', e, hR⟩ := h.row msC_len
  injection e with e1 e2 e3
  rw [e1]
  exact hR
theorem oneM {w w1 : World} {cs : List Value} {t : Nat} (h : Below (w.alloc (.cells cs.toArray t)).heap.size (w.alloc (.cells cs.toArray t)) w1) : Arr w1 w.heap.size t cs ∧ Below w.heap.size w w1 := ⟨arr9_on (Arr.fresh w t cs) h, below_one h⟩
set_option maxRecDepth 100000 in
set_option maxHeartbeats 1000000 in
theorem sz_mb {w : World} {a : Option Addr} {len cap : Nat} {xs : List SeL} {b : Option Addr} {lem cam : Nat} {ys : List MsL} (x0 : MbArg w a len xs b lem ys) (W : World) (hb : Below w.heap.size w W) :
    Calls Tryz.prog 6 #[.agg #[.slice a len cap, .slice b lem cam], .int .i64 1048576] W fun e w' => (∃ z, e = .returned (.int .i64 z) ∧ (z = -1 ∨ (0 ≤ z ∧ z ≤ 1048576) ∧ (len ≤ 1048576 ∧ lem ≤ 1048576) ∧ SzS xs ∧ SzM ys)) ∧ Below W.heap.size W w' := by
  obtain ⟨y0, y1⟩ := x0
  have i1 := fun W hb => sz_argM (cap := cap) y0 W hb
  have i2 := fun z l0 l1 W hb => szk_arg (cap := cam) y1 z l0 l1 W hb
  have HK := Lib.hid (fun w1 (h : Below (W.alloc (.cells #[.slice a len cap, .slice b lem cam] 25)).heap.size (W.alloc (.cells #[.slice a len cap, .slice b lem cam] 25)) w1) => oneM (cs := [.slice a len cap, .slice b lem cam]) h)
  have HB := Lib.hid hb
  clear hb y0 y1
  go_enter Tryz.func6, Tryz.ntmps6
  go_wp2_with (first
    | (go_at_call 21; go_fit (i1 _ (HB.out.trans (((Below.refl _ _).alloc (Nat.le_refl _) _).mono HB.out.size))); rintro e w1 ⟨⟨z, rfl, hz⟩, hb1⟩; obtain ⟨hA, hb⟩ := HK.out _ hb1; obtain ⟨⟨c0, c1⟩, _⟩ := arr9_two hA; have HB1 := Lib.hid hb; clear hA hb1 hb; rcases hz with rfl | ⟨⟨hz0, hz1⟩, hz2, hz3⟩)
    | (go_at_call 22; go_fit (i2 z hz0 hz1 _ (HB.out.trans (HB1.out.mono HB.out.size))); rintro e w2 ⟨⟨z2, rfl, hq⟩, hb2⟩; have HB2 := Lib.hid (HB1.out.trans (hb2.mono HB1.out.size)); clear hb2; rcases hq with rfl | ⟨⟨hq0, hq1⟩, hq2, hq3⟩))
  · go_ret
    exact ⟨⟨_, rfl, .inl rfl⟩, HB1.out⟩
  · go_ret
    exact ⟨⟨_, rfl, .inl rfl⟩, HB2.out⟩
  · go_ret
    exact ⟨⟨_, rfl, .inr ⟨⟨hq0, hq1⟩, ⟨hz2, hq2⟩, hz3, hq3⟩⟩, HB2.out⟩
end Go.Proofs.YtpjmcpfmnlfmdaaGreat

namespace Go.Proofs.YtpjmcpfmnlfmdaaGreat
set_option linter.unusedSimpArgs false
set_option linter.unusedVariables false
open Go.RowKit

def mk_ms (q k : Nat) : Value := if q % 6 = 4 then .int .i64 (k : Int) else .string (mkT k)
theorem mk_ms_s {q k : Nat} {z : Int} (h4 : q % 6 ≠ 4) (hz : z.toNat = k) : Value.string (mkT z.toNat) = mk_ms q k := by
  unfold mk_ms
  rw [if_neg h4, hz]
theorem mk_ms_4 {q k : Nat} {z : Int} (h : q % 6 = 4) (hz : z = (k : Int)) : Value.int .i64 z = mk_ms q k := by
  unfold mk_ms
  rw [if_pos h, hz]
theorem MRow.ms {f : Nat → Nat → Value} {k B e g n cap m : Nat} {w W : World} (h : MRow f k w B e 6 g n cap W m) {i : Nat} (hi : i < n) : ∃ u0 u1 u2 u3 u4 u5, (W.cell? ⟨g, i * 6, none⟩ = some u0 ∧ W.cell? ⟨g, i * 6 + 1, none⟩ = some u1 ∧ W.cell? ⟨g, i * 6 + 2, none⟩ = some u2 ∧ W.cell? ⟨g, i * 6 + 3, none⟩ = some u3 ∧ W.cell? ⟨g, i * 6 + 4, none⟩ = some u4 ∧ W.cell? ⟨g, i * 6 + 5, none⟩ = some u5) ∧ W.frozen? ⟨g, i * 6, none⟩ = false ∧ W.frozen? ⟨g, i * 6 + 1, none⟩ = false ∧ W.frozen? ⟨g, i * 6 + 2, none⟩ = false ∧ W.frozen? ⟨g, i * 6 + 3, none⟩ = false ∧ W.frozen? ⟨g, i * 6 + 4, none⟩ = false ∧ W.frozen? ⟨g, i * 6 + 5, none⟩ = false := by
  obtain ⟨⟨u0, c0⟩, f0⟩ := h.there (q := i * 6) (by omega)
  obtain ⟨⟨u1, c1⟩, f1⟩ := h.there (q := i * 6 + 1) (by omega)
  obtain ⟨⟨u2, c2⟩, f2⟩ := h.there (q := i * 6 + 2) (by omega)
  obtain ⟨⟨u3, c3⟩, f3⟩ := h.there (q := i * 6 + 3) (by omega)
  obtain ⟨⟨u4, c4⟩, f4⟩ := h.there (q := i * 6 + 4) (by omega)
  obtain ⟨⟨u5, c5⟩, f5⟩ := h.there (q := i * 6 + 5) (by omega)
  exact ⟨u0, u1, u2, u3, u4, u5, ⟨c0, c1, c2, c3, c4, c5⟩, f0, f1, f2, f3, f4, f5⟩
set_option maxRecDepth 100000 in
set_option maxHeartbeats 1000000 in
theorem mark_ms (B g n cap k0 : Nat) (w : World) (hk : 0 < k0) (hk1 : k0 ≤ 10000000) (hn : n ≤ 2000000) (h : MRow mk_ms k0 w B 35 6 g n cap w 0) :
    Calls Tryz.prog 36 #[.slice (some ⟨g, 0, none⟩) n cap, .int .i64 (k0 : Int)] w fun e w' => e = .returned (.int .i64 ((k0 : Int) + n * 6)) ∧ MRow mk_ms k0 w B 35 6 g n cap w' (n * 6) := by
  have HH := Lib.hid h
  clear h
  go_enter Tryz.func36, Tryz.ntmps36
  go_wp2
  go_loopw [1, 5] (fun kq iq wr => ∃ (i : Nat) (z : Int), i ≤ n ∧ iq = .int .i64 i ∧ kq = .int .i64 z ∧ z = (k0 : Int) + i * 6 ∧ MRow mk_ms k0 w B 35 6 g n cap wr (i * 6)) (fun _ i _ => n - (intOf i).toNat)
  case atStart => exact ⟨0, _, Nat.zero_le _, rfl, rfl, by simp, by simpa using HH.out⟩
  case round =>
    obtain ⟨i, z, hi, rfl, rfl, hz, hM⟩ := hrel
    have hz0 : 0 < z := by omega
    have hz1 : z ≤ 100000000 := by omega
    have HZ := Lib.hid hz
    have HM := Lib.hid hM
    clear hz hM
    by_cases hlt : i < n
    · clear hk hk1
      go_wp2_with (first
        | (go_at_call 63; have _ := HM3; go_fit (mark_textI _ _ (by omega) (by omega)); rintro e w5 ⟨rfl, hb5⟩; have HM5 := Lib.hid ((((HM3.out.put (by omega) (mk_ms_s (by omega) (by have := HZ.out; omega))).put (by omega) (mk_ms_4 (by omega) (by have := HZ.out; omega)))).on hb5); clear hb5; obtain ⟨u0, u1, u2, u3, u4, u5, ⟨c0, c1, c2, c3, c4, c5⟩, f0, f1, f2, f3, f4, f5⟩ := HM5.out.ms hlt)
        | (go_at_call 63; have _ := HM2; go_fit (mark_textI _ _ (by omega) (by omega)); rintro e w3 ⟨rfl, hb3⟩; have HM3 := Lib.hid (((HM2.out.put (by omega) (mk_ms_s (by omega) (by have := HZ.out; omega)))).on hb3); clear hb3; obtain ⟨u0, u1, u2, u3, u4, u5, ⟨c0, c1, c2, c3, c4, c5⟩, f0, f1, f2, f3, f4, f5⟩ := HM3.out.ms hlt)
        | (go_at_call 63; have _ := HM1; go_fit (mark_textI _ _ (by omega) (by omega)); rintro e w2 ⟨rfl, hb2⟩; have HM2 := Lib.hid (((HM1.out.put (by omega) (mk_ms_s (by omega) (by have := HZ.out; omega)))).on hb2); clear hb2; obtain ⟨u0, u1, u2, u3, u4, u5, ⟨c0, c1, c2, c3, c4, c5⟩, f0, f1, f2, f3, f4, f5⟩ := HM2.out.ms hlt)
        | (go_at_call 63; have _ := HM0; go_fit (mark_textI _ _ (by omega) (by omega)); rintro e w1 ⟨rfl, hb1⟩; have HM1 := Lib.hid (((HM0.out.put (by omega) (mk_ms_s (by omega) (by have := HZ.out; omega)))).on hb1); clear hb1; obtain ⟨u0, u1, u2, u3, u4, u5, ⟨c0, c1, c2, c3, c4, c5⟩, f0, f1, f2, f3, f4, f5⟩ := HM1.out.ms hlt)
        | (go_at_call 63; go_fit (mark_textI _ _ (by omega) (by omega)); rintro e w0 ⟨rfl, hb0⟩; have HM0 := Lib.hid ((HM.out).on hb0); clear hb0; obtain ⟨u0, u1, u2, u3, u4, u5, ⟨c0, c1, c2, c3, c4, c5⟩, f0, f1, f2, f3, f4, f5⟩ := HM0.out.ms hlt))
      go_roundw
      case rel => exact ⟨i + 1, _, by omega, by go_num, rfl, by have := HZ.out; omega, by rw [show (i + 1) * 6 = i * 6 + 5 + 1 by omega]; exact (HM5.out.put (by omega) (mk_ms_s (by omega) (by have := HZ.out; omega)))⟩
      case measure => simp [intOf]; omega
    · obtain rfl : i = n := by omega
      go_wp2
      go_ret
      exact ⟨ret_int HZ.out, HM.out⟩
theorem mark_ms_0 (p : Option Addr) (cap k0 : Nat) (w : World) (hk1 : k0 ≤ 10000000) :
    Calls Tryz.prog 36 #[.slice p 0 cap, .int .i64 (k0 : Int)] w fun e w' => e = .returned (.int .i64 (k0 : Int)) ∧ w = w' := by
  go_enter Tryz.func36, Tryz.ntmps36
  go_wp2
  go_loopw [1, 5] (fun kq iq wr => kq = .int .i64 (k0 : Int) ∧ iq = .int .i64 0 ∧ w = wr) (fun _ _ _ => 0)
  case atStart => exact ⟨rfl, rfl, rfl⟩
  case round =>
    obtain ⟨rfl, rfl, rfl⟩ := hrel
    go_wp2
    go_ret
    exact ⟨rfl, rfl⟩
theorem held_ms_0 (p : Option Addr) (cap k0 : Nat) (w : World) (hk1 : k0 ≤ 10000000) :
    Calls Tryz.prog 65 #[.slice p 0 cap, .int .i64 (k0 : Int)] w fun e w' => e = .returned (.int .i64 (k0 : Int)) ∧ w = w' := by
  go_enter Tryz.func65, Tryz.ntmps65
  go_wp2
  go_loopw [1, 5] (fun kq iq wr => kq = .int .i64 (k0 : Int) ∧ iq = .int .i64 0 ∧ w = wr) (fun _ _ _ => 0)
  case atStart => exact ⟨rfl, rfl, rfl⟩
  case round =>
    obtain ⟨rfl, rfl, rfl⟩ := hrel
    go_wp2
    go_ret
    exact ⟨rfl, rfl⟩
abbrev Held_ms (g i : Nat) (z : Int) (wr W : World) : Prop := (W.cell? ⟨g, i * 6, none⟩ = some (.string (mkT (z).toNat)) ∧ W.cell? ⟨g, i * 6 + 1, none⟩ = some (.string (mkT (z + 1).toNat)) ∧ W.cell? ⟨g, i * 6 + 2, none⟩ = some (.string (mkT (z + 1 + 1).toNat)) ∧ W.cell? ⟨g, i * 6 + 3, none⟩ = some (.string (mkT (z + 1 + 1 + 1).toNat)) ∧ W.cell? ⟨g, i * 6 + 4, none⟩ = some (.int .i64 (z + 1 + 1 + 1 + 1)) ∧ W.cell? ⟨g, i * 6 + 5, none⟩ = some (.string (mkT (z + 1 + 1 + 1 + 1 + 1).toNat))) ∧ (Below wr.heap.size wr W ∧ g < wr.heap.size)
theorem held_ms_on {g i : Nat} {z : Int} {wr W W2 : World} (h : Held_ms g i z wr W) (hb : Below W.heap.size W W2) : Held_ms g i z wr W2 := by
  obtain ⟨⟨c0, c1, c2, c3, c4, c5⟩, h1, h2⟩ := h
  have hg : g < W.heap.size := Nat.lt_of_lt_of_le h2 h1.size
  exact ⟨⟨(hb.cell (p := ⟨g, i * 6, none⟩) hg).trans c0, (hb.cell (p := ⟨g, i * 6 + 1, none⟩) hg).trans c1, (hb.cell (p := ⟨g, i * 6 + 2, none⟩) hg).trans c2, (hb.cell (p := ⟨g, i * 6 + 3, none⟩) hg).trans c3, (hb.cell (p := ⟨g, i * 6 + 4, none⟩) hg).trans c4, (hb.cell (p := ⟨g, i * 6 + 5, none⟩) hg).trans c5⟩, h1.trans (hb.mono h1.size), h2⟩
theorem held_ms_drew {g i : Nat} {z : Int} {wr W : World} (h : Held_ms g i z wr W) : Held_ms g i z wr W.drew := held_ms_on h (Below.refl _ _).drew
theorem held_ms_of {k0 B g n cap m i : Nat} {z : Int} {w wr : World} (h : MRow mk_ms k0 w B 35 6 g n cap wr m) (hi : i < n) (hm : i * 6 + 6 ≤ m) (hz : z = (k0 : Int) + i * 6) : Held_ms g i z wr wr := by
  refine ⟨⟨?_, ?_, ?_, ?_, ?_, ?_⟩, Below.refl _ _, h.lt.2⟩
  · exact (h.cell (by omega) (by omega)).trans (congrArg some (mk_ms_s (by omega) (by omega)).symm)
  · exact (h.cell (by omega) (by omega)).trans (congrArg some (mk_ms_s (by omega) (by omega)).symm)
  · exact (h.cell (by omega) (by omega)).trans (congrArg some (mk_ms_s (by omega) (by omega)).symm)
  · exact (h.cell (by omega) (by omega)).trans (congrArg some (mk_ms_s (by omega) (by omega)).symm)
  · exact (h.cell (by omega) (by omega)).trans (congrArg some (mk_ms_4 (by omega) (by omega)).symm)
  · exact (h.cell (by omega) (by omega)).trans (congrArg some (mk_ms_s (by omega) (by omega)).symm)
set_option maxRecDepth 100000 in
set_option maxHeartbeats 2000000 in
theorem heldr_ms (B g n cap k0 m : Nat) (w0 w : World) (hk : 0 < k0) (hk1 : k0 ≤ 10000000) (hn : n ≤ 2000000) (h : MRow mk_ms k0 w0 B 35 6 g n cap w m) (hm : m = n * 6) :
    Calls Tryz.prog 65 #[.slice (some ⟨g, 0, none⟩) n cap, .int .i64 (k0 : Int)] w fun e w' => e = .returned (.int .i64 ((k0 : Int) + n * 6)) ∧ Below w.heap.size w w' := by
  have HH := Lib.hid h
  clear h
  go_enter Tryz.func65, Tryz.ntmps65
  go_wp2
  go_loopw [1, 5] (fun kq iq wr => ∃ (i : Nat) (z : Int), i ≤ n ∧ iq = .int .i64 i ∧ kq = .int .i64 z ∧ z = (k0 : Int) + i * 6 ∧ Below w.heap.size w wr) (fun _ i _ => n - (intOf i).toNat)
  case atStart => exact ⟨0, _, Nat.zero_le _, rfl, rfl, by simp, Below.refl _ _⟩
  case round =>
    obtain ⟨i, z, hi, rfl, rfl, hz, hb⟩ := hrel
    have hz0 : 0 < z := by omega
    have hz1 : z ≤ 100000000 := by omega
    have HZ := Lib.hid hz
    have HB := Lib.hid hb
    by_cases hlt : i < n
    · have hS := held_ms_of (HH.out.on hb) hlt (by omega) hz
      have HS := Lib.hid hS
      obtain ⟨⟨c0, c1, c2, c3, c4, c5⟩, _, _⟩ := hS
      clear hz hb hk hk1 hm
      go_wp2
      go_region_held3 (fun W => (W.cell? ⟨g, i * 6, none⟩ = some (.string (mkT (z).toNat)) ∧ W.cell? ⟨g, i * 6 + 1, none⟩ = some (.string (mkT (z + 1).toNat)) ∧ W.cell? ⟨g, i * 6 + 2, none⟩ = some (.string (mkT (z + 1 + 1).toNat)) ∧ W.cell? ⟨g, i * 6 + 3, none⟩ = some (.string (mkT (z + 1 + 1 + 1).toNat)) ∧ W.cell? ⟨g, i * 6 + 4, none⟩ = some (.int .i64 (z + 1 + 1 + 1 + 1)) ∧ W.cell? ⟨g, i * 6 + 5, none⟩ = some (.string (mkT (z + 1 + 1 + 1 + 1 + 1).toNat))) ∧ (Below wr.heap.size wr W ∧ g < wr.heap.size))
        (with_reducible first | assumption | exact held_ms_drew HS.out | exact held_ms_on (by assumption) hbN)
        (first | (go_at_call 63; go_fit (mark_textI _ _ (by omega) (by omega)); rintro e wn0 ⟨rfl, hbN⟩; have HS0 := Lib.hid (held_ms_on (z := z) (i := i) (wr := wr) (by assumption) hbN); obtain ⟨⟨d0, d1, d2, d3, d4, d5⟩, _, _⟩ := HS0.out))
      go_wp2
      go_region_held3 (fun W => (W.cell? ⟨g, i * 6, none⟩ = some (.string (mkT (z).toNat)) ∧ W.cell? ⟨g, i * 6 + 1, none⟩ = some (.string (mkT (z + 1).toNat)) ∧ W.cell? ⟨g, i * 6 + 2, none⟩ = some (.string (mkT (z + 1 + 1).toNat)) ∧ W.cell? ⟨g, i * 6 + 3, none⟩ = some (.string (mkT (z + 1 + 1 + 1).toNat)) ∧ W.cell? ⟨g, i * 6 + 4, none⟩ = some (.int .i64 (z + 1 + 1 + 1 + 1)) ∧ W.cell? ⟨g, i * 6 + 5, none⟩ = some (.string (mkT (z + 1 + 1 + 1 + 1 + 1).toNat))) ∧ (Below wr.heap.size wr W ∧ g < wr.heap.size))
        (with_reducible first | assumption | exact held_ms_drew HS0.out | exact held_ms_on (by assumption) hbN)
        (first | (go_at_call 63; go_fit (mark_textI _ _ (by omega) (by omega)); rintro e wn1 ⟨rfl, hbN⟩; have HS1 := Lib.hid (held_ms_on (z := z) (i := i) (wr := wr) (by assumption) hbN); obtain ⟨⟨d0, d1, d2, d3, d4, d5⟩, _, _⟩ := HS1.out))
      go_wp2
      go_region_held3 (fun W => (W.cell? ⟨g, i * 6, none⟩ = some (.string (mkT (z).toNat)) ∧ W.cell? ⟨g, i * 6 + 1, none⟩ = some (.string (mkT (z + 1).toNat)) ∧ W.cell? ⟨g, i * 6 + 2, none⟩ = some (.string (mkT (z + 1 + 1).toNat)) ∧ W.cell? ⟨g, i * 6 + 3, none⟩ = some (.string (mkT (z + 1 + 1 + 1).toNat)) ∧ W.cell? ⟨g, i * 6 + 4, none⟩ = some (.int .i64 (z + 1 + 1 + 1 + 1)) ∧ W.cell? ⟨g, i * 6 + 5, none⟩ = some (.string (mkT (z + 1 + 1 + 1 + 1 + 1).toNat))) ∧ (Below wr.heap.size wr W ∧ g < wr.heap.size))
        (with_reducible first | assumption | exact held_ms_drew HS1.out | exact held_ms_on (by assumption) hbN)
        (first | (go_at_call 63; go_fit (mark_textI _ _ (by omega) (by omega)); rintro e wn2 ⟨rfl, hbN⟩; have HS2 := Lib.hid (held_ms_on (z := z) (i := i) (wr := wr) (by assumption) hbN); obtain ⟨⟨d0, d1, d2, d3, d4, d5⟩, _, _⟩ := HS2.out))
      go_wp2
      go_region_held3 (fun W => (W.cell? ⟨g, i * 6, none⟩ = some (.string (mkT (z).toNat)) ∧ W.cell? ⟨g, i * 6 + 1, none⟩ = some (.string (mkT (z + 1).toNat)) ∧ W.cell? ⟨g, i * 6 + 2, none⟩ = some (.string (mkT (z + 1 + 1).toNat)) ∧ W.cell? ⟨g, i * 6 + 3, none⟩ = some (.string (mkT (z + 1 + 1 + 1).toNat)) ∧ W.cell? ⟨g, i * 6 + 4, none⟩ = some (.int .i64 (z + 1 + 1 + 1 + 1)) ∧ W.cell? ⟨g, i * 6 + 5, none⟩ = some (.string (mkT (z + 1 + 1 + 1 + 1 + 1).toNat))) ∧ (Below wr.heap.size wr W ∧ g < wr.heap.size))
        (with_reducible first | assumption | exact held_ms_drew HS2.out | exact held_ms_on (by assumption) hbN)
        (first | (go_at_call 63; go_fit (mark_textI _ _ (by omega) (by omega)); rintro e wn3 ⟨rfl, hbN⟩; have HS3 := Lib.hid (held_ms_on (z := z) (i := i) (wr := wr) (by assumption) hbN); obtain ⟨⟨d0, d1, d2, d3, d4, d5⟩, _, _⟩ := HS3.out))
      go_wp2
      go_region_held3 (fun W => (W.cell? ⟨g, i * 6, none⟩ = some (.string (mkT (z).toNat)) ∧ W.cell? ⟨g, i * 6 + 1, none⟩ = some (.string (mkT (z + 1).toNat)) ∧ W.cell? ⟨g, i * 6 + 2, none⟩ = some (.string (mkT (z + 1 + 1).toNat)) ∧ W.cell? ⟨g, i * 6 + 3, none⟩ = some (.string (mkT (z + 1 + 1 + 1).toNat)) ∧ W.cell? ⟨g, i * 6 + 4, none⟩ = some (.int .i64 (z + 1 + 1 + 1 + 1)) ∧ W.cell? ⟨g, i * 6 + 5, none⟩ = some (.string (mkT (z + 1 + 1 + 1 + 1 + 1).toNat))) ∧ (Below wr.heap.size wr W ∧ g < wr.heap.size))
        (with_reducible first | assumption | exact held_ms_drew HS3.out | exact held_ms_on (by assumption) hbN)
        (first | (go_at_call 63; go_fit (mark_textI _ _ (by omega) (by omega)); rintro e wn5 ⟨rfl, hbN⟩; have HS5 := Lib.hid (held_ms_on (z := z) (i := i) (wr := wr) (by assumption) hbN); obtain ⟨⟨d0, d1, d2, d3, d4, d5⟩, _, _⟩ := HS5.out))
      go_wp2
      go_roundw
      case rel => exact ⟨i + 1, _, by omega, by go_num, rfl, by have := HZ.out; omega, HB.out.trans (HS5.out.2.1.mono HB.out.size)⟩
      case measure => simp [intOf]; omega
    · obtain rfl : i = n := by omega
      go_wp2
      go_ret
      exact ⟨ret_int HZ.out, HB.out⟩
/-- Marking a slice that the call has made. -/
theorem marks_ms {α : Type} (enc : α → List Value) (B k0 : Nat) (v : Value) (xs : List α) (w : World) (hk : 0 < k0) (hk1 : k0 ≤ 10000000) (hn : xs.length ≤ 2000000) (hB : B ≤ w.heap.size) (h : OwnC enc w B 35 6 v xs) :
    Calls Tryz.prog 36 #[v, .int .i64 (k0 : Int)] w fun e w' => e = .returned (.int .i64 ((k0 : Int) + xs.length * 6)) ∧ MOwn mk_ms k0 B 35 6 v xs.length w' ∧ MFrame B v w w' := by
  obtain ⟨n, hxn⟩ : ∃ n, xs.length = n := ⟨_, rfl⟩
  rcases Nat.eq_zero_or_pos n with h0 | h0
  · subst h0
    have hv : ∃ p cap, v = .slice p 0 cap := by
      rcases h.2 with ⟨e1, _⟩ | ⟨g, cap, cur, e1, _⟩
      · exact ⟨none, 0, e1⟩
      · exact ⟨_, cap, by rw [e1, hxn]⟩
    obtain ⟨p, cap, rfl⟩ := hv
    rw [hxn]
    refine (mark_ms_0 p cap k0 w hk1).mono ?_
    rintro e w' ⟨rfl, rfl⟩
    exact ⟨by simp, ⟨p, cap, rfl, .inl rfl⟩, Below.refl _ _, Nat.le_refl _, fun _ _ _ => rfl⟩
  · obtain ⟨g, cap, rfl⟩ := Joins.ownsRow_form h (by omega)
    rw [hxn] at h hn ⊢
    refine (mark_ms B g n cap k0 w hk hk1 hn (mrow_of h hB)).mono ?_
    rintro e w' ⟨rfl, hM⟩
    exact ⟨rfl, ⟨_, cap, rfl, .inr ⟨g, w, rfl, hM⟩⟩, hM.2.1, hM.2.2.2.1, fun k hk hne => hM.2.2.2.2 k hk (hne g rfl)⟩
theorem helds_ms (B k0 n : Nat) (v : Value) (w : World) (hk : 0 < k0) (hk1 : k0 ≤ 10000000) (hn : n ≤ 2000000) (h : MOwn mk_ms k0 B 35 6 v n w) :
    Calls Tryz.prog 65 #[v, .int .i64 (k0 : Int)] w fun e w' => e = .returned (.int .i64 ((k0 : Int) + n * 6)) ∧ Below w.heap.size w w' := by
  obtain ⟨p, cap, rfl, h1⟩ := h
  rcases h1 with rfl | ⟨g, w0, rfl, hM⟩
  · refine (held_ms_0 p cap k0 w hk1).mono ?_
    rintro e w' ⟨rfl, rfl⟩
    exact ⟨by simp, Below.refl _ _⟩
  · exact heldr_ms B g n cap k0 _ w0 w hk hk1 hn hM rfl
end Go.Proofs.YtpjmcpfmnlfmdaaGreat

namespace Go.Proofs.YtpjmcpfmnlfmdaaGreat
set_option linter.unusedSimpArgs false
set_option linter.unusedVariables false
open Go.RowKit Go.Joins

/-- A mailbox in memory of the law's own. -/
def MbIs (B : Nat) (xs : List SeL) (ys : List MsL) (p1 : Option Addr) (n1 k1 : Nat) (p2 : Option Addr) (n2 k2 : Nat) (W : World) : Prop := OwnC seC W B 70 4 (.slice p1 n1 k1) xs ∧ OwnC msC W B 35 6 (.slice p2 n2 k2) ys
theorem MbIs.on {B : Nat} {xs : List SeL} {ys : List MsL} {p1 : Option Addr} {n1 k1 : Nat} {p2 : Option Addr} {n2 k2 : Nat} {W W2 : World} (h : MbIs B xs ys p1 n1 k1 p2 n2 k2 W) (hb : Below W.heap.size W W2) : MbIs B xs ys p1 n1 k1 p2 n2 k2 W2 := ⟨h.1.on hb, h.2.on hb⟩
theorem MbIs.mono {B B2 : Nat} {xs : List SeL} {ys : List MsL} {p1 : Option Addr} {n1 k1 : Nat} {p2 : Option Addr} {n2 k2 : Nat} {W : World} (h : MbIs B xs ys p1 n1 k1 p2 n2 k2 W) (hB : B2 ≤ B) : MbIs B2 xs ys p1 n1 k1 p2 n2 k2 W := ⟨h.1.mono hB, h.2.mono hB⟩
/-- The three boxes of toMailbox. -/
def TmB (W W1 : World) (a : Option Addr) (len cap : Nat) (b : Option Addr) (lem cam : Nat) (u1 u2 : Value) : Prop := Arr W1 W.heap.size 25 [.slice a len cap, .slice b lem cam] ∧ Arr W1 (W.heap.size + 1) 33 [.slice none 0 0, .slice none 0 0] ∧ Arr W1 (W.heap.size + 2) 33 [u1, u2] ∧ Below W.heap.size W W1
theorem TmB.on {W W1 W2 : World} {a : Option Addr} {len cap : Nat} {b : Option Addr} {lem cam : Nat} {u1 u2 : Value} (h : TmB W W1 a len cap b lem cam u1 u2) (hb : Below W1.heap.size W1 W2) : TmB W W2 a len cap b lem cam u1 u2 := ⟨arr9_on h.1 hb, arr9_on h.2.1 hb, arr9_on h.2.2.1 hb, h.2.2.2.trans (hb.mono h.2.2.2.size)⟩
theorem tmb_start (W : World) (a : Option Addr) (len cap : Nat) (b : Option Addr) (lem cam : Nat) : TmB W (((W.alloc (.cells #[.slice a len cap, .slice b lem cam] 25)).alloc (.cells #[.slice none 0 0, .slice none 0 0] 33)).alloc (.cells #[.slice none 0 0, .slice none 0 0] 33)) a len cap b lem cam (.slice none 0 0) (.slice none 0 0) := by
  have h2 := Arr.fresh (W.alloc (.cells #[.slice a len cap, .slice b lem cam] 25)) 33 [.slice none 0 0, .slice none 0 0]
  have h3 := Arr.fresh ((W.alloc (.cells #[.slice a len cap, .slice b lem cam] 25)).alloc (.cells #[.slice none 0 0, .slice none 0 0] 33)) 33 [.slice none 0 0, .slice none 0 0]
  rw [World.size_alloc] at h2
  rw [World.size_alloc, World.size_alloc] at h3
  exact ⟨arr9_on (arr9_on (Arr.fresh W 25 [.slice a len cap, .slice b lem cam]) ((Below.refl _ _).alloc (Nat.le_refl _) _)) ((Below.refl _ _).alloc (Nat.le_refl _) _), arr9_on h2 ((Below.refl _ _).alloc (Nat.le_refl _) _), h3, (((Below.refl _ _).alloc (Nat.le_refl _) _).alloc (by simp) _).alloc (by simp; omega) _⟩
theorem TmB.put0 {W W1 : World} {a : Option Addr} {len cap : Nat} {b : Option Addr} {lem cam : Nat} {u1 u2 : Value} (h : TmB W W1 a len cap b lem cam u1 u2) (v : Value) : TmB W (W1.setCell ⟨W.heap.size + 2, 0, none⟩ v) a len cap b lem cam v u2 :=
  ⟨arr_other h.1 _ _ _ (by omega), arr_other h.2.1 _ _ _ (by omega), h.2.2.1.put 0 v, h.2.2.2.setCell (p := ⟨W.heap.size + 2, 0, none⟩) (Nat.le_add_right _ _) v⟩
theorem TmB.put1 {W W1 : World} {a : Option Addr} {len cap : Nat} {b : Option Addr} {lem cam : Nat} {u1 u2 : Value} (h : TmB W W1 a len cap b lem cam u1 u2) (v : Value) : TmB W (W1.setCell ⟨W.heap.size + 2, 1, none⟩ v) a len cap b lem cam u1 v :=
  ⟨arr_other h.1 _ _ _ (by omega), arr_other h.2.1 _ _ _ (by omega), h.2.2.1.put 1 v, h.2.2.2.setCell (p := ⟨W.heap.size + 2, 1, none⟩) (Nat.le_add_right _ _) v⟩
theorem TmB.cells {W W1 : World} {a : Option Addr} {len cap : Nat} {b : Option Addr} {lem cam : Nat} {u1 u2 : Value} (h : TmB W W1 a len cap b lem cam u1 u2) :
    ((W1.cell? ⟨W.heap.size, 0, none⟩ = some (.slice a len cap) ∧ W1.cell? ⟨W.heap.size, 1, none⟩ = some (.slice b lem cam)) ∧ (W1.cell? ⟨W.heap.size + 2, 0, none⟩ = some u1 ∧ W1.cell? ⟨W.heap.size + 2, 1, none⟩ = some u2) ∧ (W1.frozen? ⟨W.heap.size + 2, 0, none⟩ = false ∧ W1.frozen? ⟨W.heap.size + 2, 1, none⟩ = false)) ∧ ((W1.cell? ⟨W.heap.size + 1, 0, none⟩ = some (.slice none 0 0) ∧ W1.cell? ⟨W.heap.size + 1, 1, none⟩ = some (.slice none 0 0)) ∧ (W1.frozen? ⟨W.heap.size + 1, 0, none⟩ = false ∧ W1.frozen? ⟨W.heap.size + 1, 1, none⟩ = false)) ∧ W.heap.size + 2 < W1.heap.size :=
  ⟨⟨(arr9_two h.1).1, (arr9_two h.2.2.1).1, (arr9_two h.2.2.1).2⟩, ⟨(arr9_two h.2.1).1, (arr9_two h.2.1).2⟩, arr9_lt h.2.2.1⟩
set_option maxRecDepth 100000 in
set_option maxHeartbeats 2000000 in
theorem to_mb {w : World} {a : Option Addr} {len cap : Nat} {xs : List SeL} {b : Option Addr} {lem cam : Nat} {ys : List MsL} (x0 : MbArg w a len xs b lem ys) (hl : len ≤ 1048576 ∧ lem ≤ 1048576) (W : World) (hb : Below w.heap.size w W) :
    Calls Tryz.prog 9 #[.agg #[.slice a len cap, .slice b lem cam]] W fun e w' => (∃ p1 k1 p2 k2, e = .returned (.agg #[.slice p1 len k1, .slice p2 lem k2]) ∧ MbIs W.heap.size xs ys p1 len k1 p2 lem k2 w') ∧ Below W.heap.size W w' := by
  obtain ⟨y0, y1⟩ := x0
  obtain ⟨l0, l1⟩ := hl
  have i1 := fun W hb => to_arg (cap := cap) y0 l0 W hb
  have i2 := fun W hb => tok_arg (cap := cam) y1 l1 W hb
  have HS := Lib.hid (tmb_start W a len cap b lem cam)
  have HB := Lib.hid hb
  clear hb y0 y1
  go_enter Tryz.func9, Tryz.ntmps9
  go_wp2_with (first
    | (go_at_call 27; go_fit (i1 _ (HB.out.trans (HS.out.2.2.2.mono HB.out.size))); rintro e w1 ⟨⟨p1, k1, rfl, ho⟩, hb1⟩; have HS1 := Lib.hid (HS.out.on hb1); have HO1 : Hid (OwnC seC w1 (W.heap.size + 3) 70 4 (.slice p1 len k1) xs) := Lib.hid (ho.mono (by simp)); obtain ⟨⟨⟨c0, c1⟩, ⟨d0, d1⟩, ⟨f0, f1⟩⟩, _, hz⟩ := HS1.out.cells; have HT1 := Lib.hid (HS1.out.put0 (.slice p1 len k1)); clear hb1 ho)
    | (go_at_call 28; go_fit (i2 _ (HB.out.trans (HT1.out.2.2.2.mono HB.out.size))); rintro e w2 ⟨⟨p2, k2, rfl, ho⟩, hb2⟩; have HS2 := Lib.hid (HT1.out.on hb2); have HO2 : Hid (OwnC msC w2 (W.heap.size + 3) 35 6 (.slice p2 lem k2) ys) := Lib.hid (ho.mono (by have := hz; simp; omega)); have HO1b := Lib.hid ((HO1.out.low (a := ⟨W.heap.size + 2, 0, none⟩) (Nat.lt_succ_self _) (.slice p1 len k1)).on hb2); obtain ⟨⟨⟨e0, e1⟩, ⟨g0, g1⟩, ⟨h0, h1⟩⟩, ⟨⟨r0, r1⟩, ⟨s0, s1⟩⟩, hz2⟩ := HS2.out.cells; have HT2 := Lib.hid (HS2.out.put1 (.slice p2 lem k2)); clear hb2 ho))
  have hE := (HT2.out.2.1.put 0 (.slice p1 len k1)).put 1 (.slice p2 lem k2)
  refine bodyPost_ret (v := .agg #[.slice p1 len k1, .slice p2 lem k2]) (results_cell_row (P := Tryz.prog) Tryz.results9 _ _ (W.heap.size + 1) 33 _ (0, 0) _ rfl hE Tryz.underlying33 rfl (by kernel_rfl)) rfl ⟨⟨p1, k1, p2, k2, rfl, ?_, ?_⟩, (HT2.out.2.2.2.setCell (p := ⟨W.heap.size + 1, 0, none⟩) (Nat.le_add_right _ _) _).setCell (p := ⟨W.heap.size + 1, 1, none⟩) (Nat.le_add_right _ _) _⟩
  · exact (((HO1b.out.low (a := ⟨W.heap.size + 2, 1, none⟩) (Nat.lt_succ_self _) _).low (a := ⟨W.heap.size + 1, 0, none⟩) (by show W.heap.size + 1 < W.heap.size + 3; omega) _).low (a := ⟨W.heap.size + 1, 1, none⟩) (by show W.heap.size + 1 < W.heap.size + 3; omega) _).mono (Nat.le_add_right _ _)
  · exact (((HO2.out.low (a := ⟨W.heap.size + 2, 1, none⟩) (Nat.lt_succ_self _) _).low (a := ⟨W.heap.size + 1, 0, none⟩) (by show W.heap.size + 1 < W.heap.size + 3; omega) _).low (a := ⟨W.heap.size + 1, 1, none⟩) (by show W.heap.size + 1 < W.heap.size + 3; omega) _).mono (Nat.le_add_right _ _)
end Go.Proofs.YtpjmcpfmnlfmdaaGreat

namespace Go.Proofs.YtpjmcpfmnlfmdaaGreat
set_option linter.unusedSimpArgs false
set_option linter.unusedVariables false
open Go.RowKit Go.Joins

/-- Nothing. -/
def zMs : MsL := ⟨⟨#[]⟩, ⟨#[]⟩, ⟨#[]⟩, ⟨#[]⟩, 0, ⟨#[]⟩⟩
/-- A valid stanza. -/
noncomputable def msB (x : MsL) : Bool := stB x.k x.t x.f x.o x.n x.b
/-- A stanza that may be kept. -/
noncomputable def keepB (x : MsL) : Bool := (x.k.toList == kMess.toList) && msB x
/-- A valid mailbox. -/
noncomputable def mbB (xs : List SeL) (ks : List MsL) : Bool := okB xs && decide (ks.length ≤ 5) && ks.all keepB
noncomputable def repM (s : MsL) (kd bd : ByteArray) : MsL := if (msB s && stB s.k kd s.o s.f s.n bd) = true then ⟨s.k, kd, s.o, s.f, s.n, bd⟩ else zMs
noncomputable def fltM (s : MsL) (nm : ByteArray) : MsL := if ((s.t.toList == errS.toList) || !nameB nm) = true then zMs else repM s errS nm
theorem repV_M (s : MsL) (kd bd : ByteArray) : repV s.k s.t s.f s.o s.n s.b kd bd = msV (repM s kd bd) := by
  unfold repV repM msB
  split <;> rfl
theorem fltV_M (s : MsL) (nm : ByteArray) : fltV s.k s.t s.f s.o s.n s.b nm = msV (fltM s nm) := by
  unfold fltV fltM
  rw [repV_M]
  split <;> rfl
/-- What a route answers. -/
structure RoL where
  l : List SeL
  ks : List MsL
  to : List ByteArray
  bk : MsL
  c : Int
def illM (c : Int) : RoL := ⟨[], [], [], zMs, c⟩
/-- The parts of an address. -/
noncomputable def locA (s : ByteArray) : ByteArray := strOf (readL s.data.toList).1
noncomputable def resA (s : ByteArray) : ByteArray := strOf (readL s.data.toList).2.2
/-- An address with a Local. -/
noncomputable def adrB (s : ByteArray) : Bool := addrB s && decide (0 < (locA s).size)
/-- May the stanza be routed? -/
noncomputable def routB (k : ByteArray) (xs : List SeL) (ks : List MsL) (s : MsL) : Bool := mbB xs ks && msB s && (s.k.toList == k.toList) && adrB s.o
def boundL (r : ByteArray) (xs : List SeL) : List ByteArray := selL (fun x => x.r.toList == r.toList) xs
def namedL (r : ByteArray) (xs : List SeL) : List ByteArray := selL (fun x => x.o && (x.r.toList == r.toList)) xs
def onL (xs : List SeL) : List ByteArray := selL (fun x => x.o) xs
noncomputable def nbL (r : ByteArray) (xs : List SeL) : List ByteArray := if (namedL r xs).length = 0 then bestR xs else namedL r xs
def presL (r : ByteArray) (xs : List SeL) : List ByteArray := if r.size = 0 then onL xs else namedL r xs
def unavS : ByteArray := ⟨#[117, 110, 97, 118, 97, 105, 108, 97, 98, 108, 101]⟩
def fullS : ByteArray := ⟨#[102, 117, 108, 108]⟩
def headS : ByteArray := ⟨#[104, 101, 97, 100, 108, 105, 110, 101]⟩
def grpS : ByteArray := ⟨#[103, 114, 111, 117, 112, 99, 104, 97, 116]⟩
def getS : ByteArray := ⟨#[103, 101, 116]⟩
def setS : ByteArray := ⟨#[115, 101, 116]⟩
/-- What is done with a stanza that may be routed: to whom it goes, and what is left where it goes to nobody: the stanza itself if it is kept, else an answer. -/
structure RtL where
  to : ByteArray → List SeL → List ByteArray
  rest : List MsL → MsL → MsL
open Classical in
noncomputable def withT (T : RtL) (xs : List SeL) (ks : List MsL) (s : MsL) : RoL :=
  if (T.to (resA s.o) xs).length ≠ 0 then ⟨xs, ks, T.to (resA s.o) xs, zMs, 0⟩
  else if T.rest ks s = s then ⟨xs, ks ++ [s], [], zMs, 0⟩ else ⟨xs, ks, [], T.rest ks s, 0⟩
noncomputable def routeR (k : ByteArray) (T : RtL) (xs : List SeL) (ks : List MsL) (s : MsL) : RoL := if routB k xs ks s = true then withT T xs ks s else illM 1
noncomputable def fullM (ks : List MsL) (s : MsL) : MsL := if ks.length = 5 then fltM s fullS else s
def noneT : RtL := ⟨fun _ _ => [], fun _ _ => zMs⟩
noncomputable def headT : RtL := ⟨nbL, fun _ _ => zMs⟩
noncomputable def grpT : RtL := ⟨namedL, fun _ s => fltM s unavS⟩
noncomputable def elseT : RtL := ⟨nbL, fullM⟩
noncomputable def askT : RtL := ⟨boundL, fun _ s => fltM s unavS⟩
def tellT : RtL := ⟨boundL, fun _ _ => zMs⟩
def presT : RtL := ⟨presL, fun _ _ => zMs⟩
noncomputable def mesT (t : ByteArray) : RtL := if t.toList == errS.toList then noneT else if t.toList == headS.toList then headT else if t.toList == grpS.toList then grpT else elseT
noncomputable def iqT (t : ByteArray) : RtL := if (t.toList == getS.toList) || (t.toList == setS.toList) then askT else tellT
noncomputable def messR (xs : List SeL) (ks : List MsL) (s : MsL) : RoL := routeR kMess (mesT s.t) xs ks s
noncomputable def iqR (xs : List SeL) (ks : List MsL) (s : MsL) : RoL := routeR kIq (iqT s.t) xs ks s
noncomputable def presR10 (xs : List SeL) (ks : List MsL) (s : MsL) : RoL := routeR kPres presT xs ks s
/-- The cells of an answer. -/
def roV (R : RoL) (p1 : Option Addr) (k1 : Nat) (p2 : Option Addr) (k2 : Nat) (p3 : Option Addr) (k3 : Nat) : Value :=
  .agg #[.slice p1 R.l.length k1, .slice p2 R.ks.length k2, .slice p3 R.to.length k3, .string R.bk.k, .string R.bk.t, .string R.bk.f, .string R.bk.o, .int .i64 R.bk.n, .string R.bk.b, .int .i64 R.c]
/-- An answer in memory of its own. -/
def RoIs (B : Nat) (R : RoL) (e : Ending) (W : World) : Prop := ∃ p1 k1 p2 k2 p3 k3, e = .returned (roV R p1 k1 p2 k2 p3 k3) ∧ OwnC seC W B 70 4 (.slice p1 R.l.length k1) R.l ∧ OwnC msC W B 35 6 (.slice p2 R.ks.length k2) R.ks ∧ OwnC strC W B 9 1 (.slice p3 R.to.length k3) R.to
theorem ro_ill (B : Nat) (c : Int) (W : World) : RoIs B (illM c) (.returned (.agg #[.slice none 0 0, .slice none 0 0, .slice none 0 0, .string ⟨#[]⟩, .string ⟨#[]⟩, .string ⟨#[]⟩, .string ⟨#[]⟩, .int .i64 0, .string ⟨#[]⟩, .int .i64 c])) W :=
  ⟨none, 0, none, 0, none, 0, rfl, ownC_nil _ _ _ _ _, ownC_nil _ _ _ _ _, ownC_nil _ _ _ _ _⟩
end Go.Proofs.YtpjmcpfmnlfmdaaGreat

namespace Go.Proofs.YtpjmcpfmnlfmdaaGreat
set_option linter.unusedSimpArgs false
set_option linter.unusedVariables false
open Go.RowKit Go.Joins

theorem arr_ten {w : World} {g t : Nat} {a0 a1 a2 a3 a4 a5 a6 a7 a8 a9 : Value} (h : Arr w g t [a0, a1, a2, a3, a4, a5, a6, a7, a8, a9]) :
    (w.cell? ⟨g, 0, none⟩ = some a0 ∧ w.cell? ⟨g, 1, none⟩ = some a1 ∧ w.cell? ⟨g, 2, none⟩ = some a2 ∧ w.cell? ⟨g, 3, none⟩ = some a3 ∧ w.cell? ⟨g, 4, none⟩ = some a4 ∧ w.cell? ⟨g, 5, none⟩ = some a5 ∧ w.cell? ⟨g, 6, none⟩ = some a6 ∧ w.cell? ⟨g, 7, none⟩ = some a7 ∧ w.cell? ⟨g, 8, none⟩ = some a8 ∧ w.cell? ⟨g, 9, none⟩ = some a9) ∧ g < w.heap.size :=
  ⟨⟨h.cell 0, h.cell 1, h.cell 2, h.cell 3, h.cell 4, h.cell 5, h.cell 6, h.cell 7, h.cell 8, h.cell 9⟩, arr9_lt h⟩
def roC (R : RoL) (p1 : Option Addr) (k1 : Nat) (p2 : Option Addr) (k2 : Nat) (p3 : Option Addr) (k3 : Nat) : List Value :=
  [.slice p1 R.l.length k1, .slice p2 R.ks.length k2, .slice p3 R.to.length k3, .string R.bk.k, .string R.bk.t, .string R.bk.f, .string R.bk.o, .int .i64 R.bk.n, .string R.bk.b, .int .i64 R.c]
theorem mess_list : kMess.toList = [109, 101, 115, 115, 97, 103, 101] := by rw [ByteArray.toList_eq]; rfl
theorem keep_no {ys : List MsL} {k : Nat} (hk : k < ys.length) (h : keepB ys[k] = false) : ys.all keepB = false := by
  rw [List.all_eq_false]
  exact ⟨_, List.getElem_mem hk, by rw [h]; decide⟩
/-- The first k may be kept. -/
def KeepN (ys : List MsL) (k : Nat) : Prop := ∀ i (h : i < ys.length), i < k → keepB ys[i] = true
theorem keepN_all {ys : List MsL} {k : Nat} (h : KeepN ys k) (hk : ¬ k < ys.length) : ys.all keepB = true := by
  rw [List.all_eq_true]
  intro y hy
  obtain ⟨i, hi, rfl⟩ := List.mem_iff_getElem.1 hy
  exact h i hi (by omega)
theorem keepN_succ {ys : List MsL} {k : Nat} (h : KeepN ys k) (hk : k < ys.length) (h1 : keepB ys[k] = true) : KeepN ys (k + 1) := by
  intro i hi hlt
  by_cases e : i = k
  · subst e; exact h1
  · exact h i hi (by omega)
theorem mb_okNo {xs : List SeL} {ys : List MsL} (h : okB xs = false) : mbB xs ys = false := by unfold mbB; rw [h]; rfl
theorem mb_big {xs : List SeL} {ys : List MsL} (h : 5 < ys.length) : mbB xs ys = false := by unfold mbB; rw [decide_eq_false (by omega)]; simp
theorem mb_all {xs : List SeL} {ys : List MsL} (h : okB xs = true) (h2 : ys.length ≤ 5) : mbB xs ys = ys.all keepB := by unfold mbB; rw [h, decide_eq_true h2]; simp
theorem mb_parts {xs : List SeL} {ys : List MsL} (h : mbB xs ys = true) : okB xs = true ∧ ys.length ≤ 5 ∧ ∀ y ∈ ys, keepB y = true := by
  unfold mbB at h
  simp only [Bool.and_eq_true, decide_eq_true_eq, List.all_eq_true] at h
  exact ⟨h.1.1, h.1.2, h.2⟩
set_option maxRecDepth 100000 in
set_option maxHeartbeats 4000000 in
theorem impl_mbright (xs : List SeL) (ys : List MsL) (p1 p2 : Option Addr) (n1 n2 c1 c2 : Nat) (w : World) (hx : xs.length = n1) (hy : ys.length = n2) (hn1 : n1 ≤ 1048576) (hn2 : n2 ≤ 1048576) (hw : SzS xs) (hw2 : SzM ys) (hR1 : RowC seC 4 w p1 xs) (hR2 : RowC msC 6 w p2 ys) (hm : MaxL w) :
    Calls Tryz.prog 53 #[.agg #[.slice p1 n1 c1, .slice p2 n2 c2]] w fun e w' => e = .returned (.bool (mbB xs ys)) ∧ Below w.heap.size w w' := by
  have i1 := fun W hR => impl_seright xs p1 c1 W (by omega) (se_max hw) hR
  have HK := Lib.hid (fun w1 (h : Below (w.alloc (.cells #[.slice p1 n1 c1, .slice p2 n2 c2] 33)).heap.size (w.alloc (.cells #[.slice p1 n1 c1, .slice p2 n2 c2] 33)) w1) => oneM (cs := [.slice p1 n1 c1, .slice p2 n2 c2]) h)
  have HP1 := Lib.hid (hR1.on ((Below.refl w.heap.size w).alloc (Nat.le_refl _) (.cells #[.slice p1 n1 c1, .slice p2 n2 c2] 33)))
  have HP2 := Lib.hid (fun W (h : Below w.heap.size w W) => hR2.on h)
  have HM := Lib.hid (fun W (h : Below w.heap.size w W) => hm.below h hm.pos)
  have HW := Lib.hid hw2
  have HN := Lib.hid hy
  rw [hx] at i1
  cases hk : okB xs
  · rw [mb_okNo hk]
    rw [hk] at i1
    clear hk hw hw2 hR1 hR2 hm hx hy
    go_enter Tryz.func53, Tryz.ntmps53
    go_wp2_with (go_at_call 81; go_fit (i1 _ HP1.out); rintro e w1 ⟨rfl, hb1⟩; obtain ⟨hA, hb⟩ := HK.out _ hb1; obtain ⟨⟨c0, c1_⟩, _⟩ := arr9_two hA; have HB1 := Lib.hid hb; clear hA hb1 hb)
    go_ret
    exact ⟨rfl, HB1.out⟩
  rw [hk] at i1
  by_cases h5 : 5 < n2
  · rw [mb_big (by rw [hy]; exact h5)]
    clear hk hw hw2 hR1 hR2 hm hx hy
    go_enter Tryz.func53, Tryz.ntmps53
    go_wp2_with (go_at_call 81; go_fit (i1 _ HP1.out); rintro e w1 ⟨rfl, hb1⟩; obtain ⟨hA, hb⟩ := HK.out _ hb1; obtain ⟨⟨c0, c1_⟩, _⟩ := arr9_two hA; have HB1 := Lib.hid hb; clear hA hb1 hb)
    go_ret
    exact ⟨rfl, HB1.out⟩
  rw [mb_all hk (by rw [hy]; omega)]
  have HZ := Lib.hid (fun k hk h => keep_no (ys := ys) (k := k) hk h)
  have HZ2 := Lib.hid (fun k h hk => keepN_all (ys := ys) (k := k) h hk)
  obtain ⟨Z, hZ⟩ : ∃ Z, ys.all keepB = Z := ⟨_, rfl⟩
  rw [hZ] at HZ HZ2 ⊢
  clear hk hw hw2 hR1 hR2 hm hx hy hZ
  go_enter Tryz.func53, Tryz.ntmps53
  go_wp2_with (go_at_call 81; go_fit (i1 _ HP1.out); rintro e w1 ⟨rfl, hb1⟩; obtain ⟨hA, hb⟩ := HK.out _ hb1; obtain ⟨⟨c0, c1_⟩, _⟩ := arr9_two hA; have HB1 := Lib.hid hb; clear hA hb1 hb)
  go_loopw [18] (fun iq wr => ∃ k : Nat, k ≤ n2 ∧ iq = .int .i64 k ∧ KeepN ys k ∧ Below w.heap.size w wr) (fun i _ => n2 - (intOf i).toNat)
  case atStart => exact ⟨0, Nat.zero_le _, rfl, fun i _ h => absurd h (Nat.not_lt_zero _), HB1.out⟩
  case round =>
    obtain ⟨k, hk, rfl, hI, hb⟩ := hrel
    have HI := Lib.hid hI
    have HB := Lib.hid hb
    clear hI
    by_cases hlt : k < n2
    · have hlt1 : k < ys.length := by rw [HN.out]; exact hlt
      obtain ⟨g, rfl, hg, a0, a1, a2, a3, a4, a5⟩ := row_ms6 (HP2.out _ hb) hlt1
      have hyw := HW.out _ (List.getElem_mem hlt1)
      have hno := HZ.out k hlt1
      have hsc := keepN_succ HI.out hlt1
      obtain ⟨y, hy⟩ : ∃ y, ys[k] = y := ⟨_, rfl⟩
      rw [hy] at a0 a1 a2 a3 a4 a5 hyw hno hsc
      obtain ⟨s0, s1, s2, s3, s4⟩ := hyw
      have i2 := fun W hm => impl_stright y.k y.t y.f y.o y.n y.b W (by unfold maxLen; omega) (by unfold maxLen; omega) (by unfold maxLen; omega) (by unfold maxLen; omega) hm
      have HBa := Lib.hid (HB.out.alloc HB.out.size (.cells #[.string y.k, .string y.t, .string y.f, .string y.o, .int .i64 y.n, .string y.b] 35))
      unfold keepB msB at hno hsc
      rw [mess_list] at hno hsc
      obtain ⟨bk, hbk⟩ : ∃ b, (y.k.toList == [109, 101, 115, 115, 97, 103, 101]) = b := ⟨_, rfl⟩
      obtain ⟨bs, hbs⟩ : ∃ b, stB y.k y.t y.f y.o y.n y.b = b := ⟨_, rfl⟩
      rw [hbk, hbs] at hno hsc
      rw [hbs] at i2
      have HNO := Lib.hid hno
      have HSC := Lib.hid hsc
      clear hb hy hbs hno hsc
      cases bk
      · go_wp2
        go_ret
        exact ⟨ret_bool (HNO.out rfl).symm, HBa.out⟩
      · cases bs
        · go_wp2_with (go_at_call 54; go_fit (i2 _ (HM.out _ HBa.out)); rintro e w2 ⟨rfl, hb2⟩; have HB2 := Lib.hid (HBa.out.trans (hb2.mono HBa.out.size)); clear hb2)
          go_ret
          exact ⟨ret_bool (HNO.out rfl).symm, HB2.out⟩
        · go_wp2_with (go_at_call 54; go_fit (i2 _ (HM.out _ HBa.out)); rintro e w2 ⟨rfl, hb2⟩; have HB2 := Lib.hid (HBa.out.trans (hb2.mono HBa.out.size)); clear hb2)
          go_roundw
          case rel => exact ⟨k + 1, by omega, by go_num, HSC.out rfl, HB2.out⟩
          case measure => simp [intOf]; omega
    · have HE := Lib.hid (HZ2.out k HI.out (by rw [HN.out]; exact hlt))
      clear hb
      go_wp2
      go_ret
      exact ⟨ret_bool HE.out.symm, HB.out⟩
set_option maxRecDepth 100000 in
set_option maxHeartbeats 4000000 in
theorem spec_mbright (xs : List SeL) (ys : List MsL) (p1 p2 : Option Addr) (n1 n2 c1 c2 : Nat) (w : World) (hx : xs.length = n1) (hy : ys.length = n2) (hn1 : n1 ≤ 1048576) (hn2 : n2 ≤ 1048576) (hw : SzS xs) (hw2 : SzM ys) (hR1 : RowC seC 4 w p1 xs) (hR2 : RowC msC 6 w p2 ys) :
    Calls Tryz.prog 46 #[.agg #[.slice p1 n1 c1, .slice p2 n2 c2]] w fun e w' => e = .returned (.bool (mbB xs ys)) ∧ Below w.heap.size w w' := by
  have i1 := fun W hR => spec_seright xs p1 c1 W (by omega) (se_max hw) hR
  have HK := Lib.hid (fun w1 (h : Below (w.alloc (.cells #[.slice p1 n1 c1, .slice p2 n2 c2] 33)).heap.size (w.alloc (.cells #[.slice p1 n1 c1, .slice p2 n2 c2] 33)) w1) => oneM (cs := [.slice p1 n1 c1, .slice p2 n2 c2]) h)
  have HP1 := Lib.hid (hR1.on ((Below.refl w.heap.size w).alloc (Nat.le_refl _) (.cells #[.slice p1 n1 c1, .slice p2 n2 c2] 33)))
  have HP2 := Lib.hid (fun W (h : Below w.heap.size w W) => hR2.on h)
  have HW := Lib.hid hw2
  have HN := Lib.hid hy
  rw [hx] at i1
  cases hk : okB xs
  · rw [mb_okNo hk]
    rw [hk] at i1
    clear hk hw hw2 hR1 hR2 hx hy
    go_enter Tryz.func46, Tryz.ntmps46
    go_wp2_with (go_at_call 71; go_fit (i1 _ HP1.out); rintro e w1 ⟨rfl, hb1⟩; obtain ⟨hA, hb⟩ := HK.out _ hb1; obtain ⟨⟨c0, c1_⟩, _⟩ := arr9_two hA; have HB1 := Lib.hid hb; clear hA hb1 hb)
    go_ret
    exact ⟨rfl, HB1.out⟩
  rw [hk] at i1
  by_cases h5 : 5 < n2
  · rw [mb_big (by rw [hy]; exact h5)]
    clear hk hw hw2 hR1 hR2 hx hy
    go_enter Tryz.func46, Tryz.ntmps46
    go_wp2_with (go_at_call 71; go_fit (i1 _ HP1.out); rintro e w1 ⟨rfl, hb1⟩; obtain ⟨hA, hb⟩ := HK.out _ hb1; obtain ⟨⟨c0, c1_⟩, _⟩ := arr9_two hA; have HB1 := Lib.hid hb; clear hA hb1 hb)
    go_ret
    exact ⟨rfl, HB1.out⟩
  rw [mb_all hk (by rw [hy]; omega)]
  have HZ := Lib.hid (fun k hk h => keep_no (ys := ys) (k := k) hk h)
  have HZ2 := Lib.hid (fun k h hk => keepN_all (ys := ys) (k := k) h hk)
  obtain ⟨Z, hZ⟩ : ∃ Z, ys.all keepB = Z := ⟨_, rfl⟩
  rw [hZ] at HZ HZ2 ⊢
  clear hk hw hw2 hR1 hR2 hx hy hZ
  go_enter Tryz.func46, Tryz.ntmps46
  go_wp2_with (go_at_call 71; go_fit (i1 _ HP1.out); rintro e w1 ⟨rfl, hb1⟩; obtain ⟨hA, hb⟩ := HK.out _ hb1; obtain ⟨⟨c0, c1_⟩, _⟩ := arr9_two hA; have HB1 := Lib.hid hb; have HA1 := Lib.hid hA; clear hA hb1 hb)
  go_loopw [3] (fun iq wr => ∃ k : Nat, k ≤ n2 ∧ iq = .int .i64 k ∧ KeepN ys k ∧ Arr wr w.heap.size 33 [.slice p1 n1 c1, .slice p2 n2 c2] ∧ Below w.heap.size w wr) (fun i _ => n2 - (intOf i).toNat)
  case atStart => exact ⟨0, Nat.zero_le _, rfl, fun i _ h => absurd h (Nat.not_lt_zero _), HA1.out, HB1.out⟩
  case round =>
    obtain ⟨k, hk, rfl, hI, hA, hb⟩ := hrel
    have HI := Lib.hid hI
    have HB := Lib.hid hb
    have HA := Lib.hid hA
    obtain ⟨⟨d0, d1⟩, _⟩ := arr9_two hA
    clear hI hA c0 c1_
    by_cases hlt : k < n2
    · have hlt1 : k < ys.length := by rw [HN.out]; exact hlt
      obtain ⟨g, rfl, hg, a0, a1, a2, a3, a4, a5⟩ := row_ms6 (HP2.out _ hb) hlt1
      have hyw := HW.out _ (List.getElem_mem hlt1)
      have hno := HZ.out k hlt1
      have hsc := keepN_succ HI.out hlt1
      obtain ⟨y, hy⟩ : ∃ y, ys[k] = y := ⟨_, rfl⟩
      rw [hy] at a0 a1 a2 a3 a4 a5 hyw hno hsc
      obtain ⟨s0, s1, s2, s3, s4⟩ := hyw
      have i2 := fun W => spec_stright y.k y.t y.f y.o y.n y.b W (by unfold maxLen; omega) (by omega) (by omega) (by unfold maxLen; omega)
      unfold keepB msB at hno hsc
      rw [mess_list] at hno hsc
      obtain ⟨bk, hbk⟩ : ∃ b, (y.k.toList == [109, 101, 115, 115, 97, 103, 101]) = b := ⟨_, rfl⟩
      obtain ⟨bs, hbs⟩ : ∃ b, stB y.k y.t y.f y.o y.n y.b = b := ⟨_, rfl⟩
      rw [hbk, hbs] at hno hsc
      rw [hbs] at i2
      have HNO := Lib.hid hno
      have HSC := Lib.hid hsc
      clear hb hy hbs hno hsc
      cases bk
      · go_wp2
        go_ret
        exact ⟨ret_bool (HNO.out rfl).symm, HB.out⟩
      · cases bs
        · go_wp2_with (go_at_call 47; go_fit (i2 _); rintro e w2 ⟨rfl, hb2⟩; have HB2 := Lib.hid (HB.out.trans (hb2.mono HB.out.size)); clear hb2)
          go_ret
          exact ⟨ret_bool (HNO.out rfl).symm, HB2.out⟩
        · go_wp2_with (go_at_call 47; go_fit (i2 _); rintro e w2 ⟨rfl, hb2⟩; have HB2 := Lib.hid (HB.out.trans (hb2.mono HB.out.size)); have HA2 := Lib.hid (arr9_on HA.out hb2); clear hb2)
          go_roundw
          case rel => exact ⟨k + 1, by omega, by go_num, HSC.out rfl, HA2.out, HB2.out⟩
          case measure => simp [intOf]; omega
    · have HE := Lib.hid (HZ2.out k HI.out (by rw [HN.out]; exact hlt))
      clear hb
      go_wp2
      go_ret
      exact ⟨ret_bool HE.out.symm, HB.out⟩
end Go.Proofs.YtpjmcpfmnlfmdaaGreat

namespace Go.Proofs.YtpjmcpfmnlfmdaaGreat
set_option linter.unusedSimpArgs false
set_option linter.unusedVariables false
open Go.RowKit Go.Joins

theorem own_two {α β : Type} {f : α → List Value} {h : β → List Value} {w : World} {B1 B2 e1 e2 s1 s2 : Nat} {v1 v2 : Value} {xs : List α} {ys : List β} (h1 : OwnC f w B1 e1 s1 v1 xs) (h2 : OwnC h w B2 e2 s2 v2 ys) (hne : e1 ≠ e2) : ∀ a b, v1.ownBlock = some a → v2.ownBlock = some b → b ≠ a := by
  intro a b ha hb hab
  subst hab
  rcases h1.2 with ⟨h0, _⟩ | ⟨g, c, cur, q1, _, q3, _⟩
  · rw [h0] at ha; cases ha
  · rcases h2.2 with ⟨h0, _⟩ | ⟨g2, c2, cur2, r1, _, r3, _⟩
    · rw [h0] at hb; cases hb
    · rw [q1] at ha
      rw [r1] at hb
      injection ha with ha
      injection hb with hb
      subst ha hb
      rw [q3] at r3
      injection r3 with r3
      injection r3 with _ r4
      exact hne r4
theorem own_beside {α : Type} {enc : α → List Value} {W W2 : World} {B e size : Nat} {u v : Value} {xs : List α} (ho : OwnC enc W B e size u xs) (hg : W.grownBy W2 v.ownBlock) (hne : ∀ a b, v.ownBlock = some a → u.ownBlock = some b → b ≠ a) : OwnC enc W2 B e size u xs := by
  refine ⟨ho.1, ?_⟩
  rcases ho.2 with h0 | ⟨j, c, cur, h1, h2, h3, h4⟩
  · exact .inl h0
  · exact .inr ⟨j, c, cur, h1, h2, (hg.block j (Array.getElem?_eq_some_iff.1 h3).1 (fun e => hne j j e.symm (by rw [h1]; rfl) rfl)).trans h3, h4⟩
theorem arr_beside10 {W W2 : World} {b t : Nat} {cs : List Value} {r : Option Nat} (h : Arr W b t cs) (hg : W.grownBy W2 r) (hne : ∀ k, r = some k → b ≠ k) : Arr W2 b t cs := (hg.block b (arr9_lt h) (fun e => hne b e.symm rfl)).trans h
theorem one_allM (xs : List MsL) : ∀ u ∈ xs.flatMap msC, u.oneCell' = true := by
  intro u hu
  obtain ⟨x, _, hx⟩ := List.mem_flatMap.1 hu
  exact msC_one x u hx
theorem empty_rowM (W : World) : OwnC msC (W.alloc (.cells #[] 35)) W.heap.size 35 6 (.slice (some ⟨W.heap.size, 0, none⟩) 0 0) [] :=
  World.ownsRow_lit W #[] 0 (Nat.le_refl _) (Nat.zero_le _) rfl
/-- append(v, row...). -/
theorem wp_app_rowM {o : Oper} {a : Act} {w : World} {K : Act → World → Prop} {Q : Exit → Act → World → Prop} (s x : Operand)
    (ho : o.op = .call { callee := .builtin .append, args := #[s, x], argTypes := #[31, 31] })
    (B : Nat) (v : Value) (ys : List MsL) (hs : a.eval s = v) (hown : OwnC msC w B 35 6 v ys) (B2 : Nat) (p : Option Addr) (n c : Nat) (xs : List MsL) (hx : a.eval x = .slice p n c) (hrow : OwnC msC w B2 35 6 (.slice p n c) xs)
    (hlen : ys.length + xs.length ≤ 2000000) (hB : B ≤ w.heap.size) (h : ∀ v' w', OwnC msC w' B 35 6 v' (ys ++ xs) → w.grownBy w' v.ownBlock → K (a.put o.dst v') w') : o.wp Tryz.prog a w K Q := by
  obtain ⟨i0, hi, hz0, hz1, hz2⟩ := info_parts info_ms
  rcases hrow.2 with ⟨e, h0⟩ | ⟨g, cap, cur, e, h1, h2, h3, h4, h5, h6⟩
  · obtain rfl := List.eq_nil_of_length_eq_zero h0
    rw [e] at hx
    have hr := run_append_owned_none (P := Tryz.prog) (w := w) B 31 o.type 35 i0 6 Tryz.underlying31 hi v ys.length (ys.flatMap msC) hown
    rw [List.append_nil] at h
    unfold Oper.wp execOp
    simp only [ho, resolve, invoke, builtin, Sem.run_bind, Sem.run_pure, Result.andThen_ok, List.map_toArray, List.map_cons, List.map_nil, hs, hx, hr]
    exact h v w hown (World.grownBy.refl w _)
  · have hc := hrow
    rw [e] at hx hc
    refine wp_append_own w s x 31 ho B 35 i0 _ 6 88 Tryz.underlying31 hi hz0 hz1 hz2 rfl (by decide) v ys.length (ys.flatMap msC) hs hown ⟨g, 0, none⟩ xs.length cap (xs.flatMap msC) hx hc.1 (fun j u hj => ?_) (one_allM xs) (by unfold maxLen; omega) (by omega) hB (fun v' w' h1 h2 _ => h v' w' ?_ h2)
    · have hlt : j < xs.length * 6 := by
        have := (List.getElem?_eq_some_iff.1 hj).1
        rw [hc.1] at this
        exact this
      have := World.ownsRow.cellAt hc j hlt
      rw [hj] at this
      rw [show (⟨g, 0, none⟩ : Addr).add j = ⟨g, j, none⟩ by unfold Addr.add; split <;> simp_all]
      exact this
    · show w'.ownsRow B _ 6 v' (ys ++ xs).length ((ys ++ xs).flatMap msC)
      rw [List.length_append, List.flatMap_append]
      exact h1
/-- append(v, y). -/
theorem wp_app_oneM {o : Oper} {a : Act} {w : World} {K : Act → World → Prop} {Q : Exit → Act → World → Prop} (s x : Operand)
    (ho : o.op = .call { callee := .builtin .append, args := #[s, x], argTypes := #[31, 31] })
    (B : Nat) (v : Value) (ys : List MsL) (hs : a.eval s = v) (hown : OwnC msC w B 35 6 v ys) (g : Nat) (z : MsL) (hx : a.eval x = .slice (some ⟨g, 0, none⟩) 1 1) (hA : Arr w g 35 (msC z))
    (hlen : ys.length ≤ 1000000) (hB : B ≤ w.heap.size) (h : ∀ v' w', OwnC msC w' B 35 6 v' (ys ++ [z]) → w.grownBy w' v.ownBlock → K (a.put o.dst v') w') : o.wp Tryz.prog a w K Q := by
  obtain ⟨i0, hi, hz0, hz1, hz2⟩ := info_parts info_ms
  refine wp_append_own w s x 31 ho B 35 i0 _ 6 88 Tryz.underlying31 hi hz0 hz1 hz2 rfl (by decide) v ys.length (ys.flatMap msC) hs hown ⟨g, 0, none⟩ 1 1 (msC z) hx (by rw [msC_len]) (fun j u hj => ?_) (msC_one z) (by unfold maxLen; omega) (by omega) hB (fun v' w' h1 h2 _ => h v' w' ?_ h2)
  · rw [show (⟨g, 0, none⟩ : Addr).add j = ⟨g, j, none⟩ by unfold Addr.add; split <;> simp_all, hA.cell]
    exact hj
  · show w'.ownsRow B _ 6 v' (ys ++ [z]).length ((ys ++ [z]).flatMap msC)
    rw [List.length_append, List.flatMap_append]
    simpa using h1
/-- The boxes of l10Copy. -/
def LcB (w W : World) (p1 : Option Addr) (n1 c1 : Nat) (p2 : Option Addr) (n2 c2 : Nat) : Prop := Arr W w.heap.size 33 [.slice p1 n1 c1, .slice p2 n2 c2] ∧ Arr W (w.heap.size + 1) 33 [.slice none 0 0, .slice none 0 0] ∧ Below w.heap.size w W
theorem LcB.on {w W W2 : World} {p1 : Option Addr} {n1 c1 : Nat} {p2 : Option Addr} {n2 c2 : Nat} (h : LcB w W p1 n1 c1 p2 n2 c2) (hb : Below W.heap.size W W2) : LcB w W2 p1 n1 c1 p2 n2 c2 := ⟨arr9_on h.1 hb, arr9_on h.2.1 hb, h.2.2.trans (hb.mono h.2.2.size)⟩
theorem LcB.grow {w W W2 : World} {p1 : Option Addr} {n1 c1 : Nat} {p2 : Option Addr} {n2 c2 : Nat} {r : Option Nat} (h : LcB w W p1 n1 c1 p2 n2 c2) (hg : W.grownBy W2 r) (hr : ∀ k, r = some k → w.heap.size + 2 ≤ k) : LcB w W2 p1 n1 c1 p2 n2 c2 :=
  ⟨arr_beside10 h.1 hg (fun k hk => by have := hr k hk; omega), arr_beside10 h.2.1 hg (fun k hk => by have := hr k hk; omega), h.2.2.grown hg h.2.2.size (fun k hk => by have := hr k hk; omega)⟩
theorem LcB.big {w W : World} {p1 : Option Addr} {n1 c1 : Nat} {p2 : Option Addr} {n2 c2 : Nat} (h : LcB w W p1 n1 c1 p2 n2 c2) : w.heap.size + 2 ≤ W.heap.size := by have := arr9_lt h.2.1; omega
theorem lcb_start (w : World) (p1 : Option Addr) (n1 c1 : Nat) (p2 : Option Addr) (n2 c2 : Nat) : LcB w ((w.alloc (.cells #[.slice p1 n1 c1, .slice p2 n2 c2] 33)).alloc (.cells #[.slice none 0 0, .slice none 0 0] 33)) p1 n1 c1 p2 n2 c2 := by
  have h2 := Arr.fresh (w.alloc (.cells #[.slice p1 n1 c1, .slice p2 n2 c2] 33)) 33 [.slice none 0 0, .slice none 0 0]
  rw [World.size_alloc] at h2
  exact ⟨arr9_on (Arr.fresh w 33 [.slice p1 n1 c1, .slice p2 n2 c2]) ((Below.refl _ _).alloc (Nat.le_refl _) _), h2, ((Below.refl _ _).alloc (Nat.le_refl _) _).alloc (by simp) _⟩
theorem own_shape10 {α : Type} {enc : α → List Value} {w : World} {B e size n : Nat} {v : Value} {ys : List α} (h : OwnC enc w B e size v ys) (hn : ys.length = n) : ∃ p k, v = .slice p n k := by
  subst hn
  rcases h.2 with ⟨h0, h1⟩ | ⟨g, cap, cur, h1, _⟩
  · exact ⟨none, 0, by rw [h0, h1]⟩
  · exact ⟨_, _, h1⟩
set_option maxRecDepth 100000 in
set_option maxHeartbeats 2000000 in
theorem spec_l10copy (xs : List SeL) (ys : List MsL) (p1 p2 : Option Addr) (n1 n2 c1 c2 B0 : Nat) (w : World) (hx : xs.length = n1) (hy : ys.length = n2) (hn1 : n1 ≤ 1048576) (hn2 : n2 ≤ 1048576)
    (hO1 : OwnC seC w B0 70 4 (.slice p1 n1 c1) xs) (hO2 : OwnC msC w B0 35 6 (.slice p2 n2 c2) ys) :
    Calls Tryz.prog 48 #[.agg #[.slice p1 n1 c1, .slice p2 n2 c2]] w fun e w' => (∃ q1 l1 q2 l2, e = .returned (.agg #[.slice q1 n1 l1, .slice q2 n2 l2]) ∧ OwnC seC w' w.heap.size 70 4 (.slice q1 n1 l1) xs ∧ OwnC msC w' w.heap.size 35 6 (.slice q2 n2 l2) ys) ∧ Below w.heap.size w w' := by
  have HO1 := Lib.hid (fun W (h : Below w.heap.size w W) => hO1.on h)
  have HO2 := Lib.hid (fun W (h : Below w.heap.size w W) => hO2.on h)
  have HL := Lib.hid (lcb_start w p1 n1 c1 p2 n2 c2)
  clear hO1 hO2
  go_enter Tryz.func48, Tryz.ntmps48
  go_wp2
  refine wp_region_held_drew (S := fun W => Arr W w.heap.size 33 [.slice p1 n1 c1, .slice p2 n2 c2]) (by kernel_rfl) HL.out.1 (fun hHeld => ?_)
  have HB0 := Lib.hid (HL.out.on (Below.refl _ _).drew)
  generalize World.drew _ = W0 at HB0 hHeld ⊢
  refine takeQ (i := 1) (k := 4) (v := .pointer (some ⟨w.heap.size, 0, none⟩)) rfl (by rfl) (by kernel_rfl) (by kernel_rfl) (by kernel_rfl) (fun _ _ _ h => h) (by rfl) ?_ hHeld ?_
  · intro w1 hSw; obtain ⟨⟨m0, m1⟩, _⟩ := arr9_two hSw; go_simp
  (try simp only [Act.put, List.setIfInBounds_toArray, List.set_cons_zero, List.set_cons_succ])
  refine takeQ (i := 2) (k := 5) (v := .slice p1 n1 c1) rfl (by rfl) (by kernel_rfl) (by kernel_rfl) (by kernel_rfl) (fun _ _ _ h => h) (by rfl) ?_ hHeld ?_
  · intro w1 hSw; obtain ⟨⟨m0, m1⟩, _⟩ := arr9_two hSw; go_simp
  (try simp only [Act.put, List.setIfInBounds_toArray, List.set_cons_zero, List.set_cons_succ])
  refine takeQ (i := 5) (k := 8) (v := .pointer (some ⟨w.heap.size, 1, none⟩)) rfl (by rfl) (by kernel_rfl) (by kernel_rfl) (by kernel_rfl) (fun _ _ _ h => h) (by rfl) ?_ hHeld ?_
  · intro w1 hSw; obtain ⟨⟨m0, m1⟩, _⟩ := arr9_two hSw; go_simp
  (try simp only [Act.put, List.setIfInBounds_toArray, List.set_cons_zero, List.set_cons_succ])
  refine takeQ (i := 6) (k := 9) (v := .slice p2 n2 c2) rfl (by rfl) (by kernel_rfl) (by kernel_rfl) (by kernel_rfl) (fun _ _ _ h => h) (by rfl) ?_ hHeld ?_
  · intro w1 hSw; obtain ⟨⟨m0, m1⟩, _⟩ := arr9_two hSw; go_simp
  (try simp only [Act.put, List.setIfInBounds_toArray, List.set_cons_zero, List.set_cons_succ])
  refine wpAnyH_ready (rs := [0, 4]) (by kernel_rfl) (by simp) ?_
  refine AllReadyH.cons rfl (fun K hK => ?_) (AllReadyH.cons rfl (fun K hK => ?_) AllReadyH.nil)
  · skip
    rw [if_pos (by rfl)]
    go_simp
    have HB2 := Lib.hid (HB0.out.on ((Below.refl _ _).alloc (Nat.le_refl _) (.cells #[] 70)))
    have HV3 : Hid (OwnC seC (W0.alloc (.cells #[] 70)) (w.heap.size + 2) 70 4 (.slice (some ⟨W0.heap.size, 0, none⟩) 0 0) []) := Lib.hid ((empty_row9 W0).mono HB0.out.big)
    refine hK.out _ _ HB2.out.1 (fun hHeld => ?_)
    clear hK K
    (try simp only [Act.put, List.setIfInBounds_toArray, List.set_cons_zero, List.set_cons_succ])
    generalize W0.heap.size = bv4 at HV3 ⊢
    generalize W0.alloc (.cells #[] 70) = W1 at HB2 HV3 ⊢
    refine wpAnyH_ready (rs := [3, 4]) (by kernel_rfl) (by simp) ?_
    refine AllReadyH.cons rfl (fun K hK => ?_) (AllReadyH.cons rfl (fun K hK => ?_) AllReadyH.nil)
    · skip
      rw [if_pos (by rfl)]
      refine wp_app_row9 _ _ rfl (w.heap.size + 2) _ [] rfl HV3.out B0 p1 n1 c1 xs rfl (HO1.out _ HB2.out.2.2) (by rw [hx]; show 0 + n1 ≤ 2000000; omega) HB2.out.big ?_
      intro v7 W5 hv hg
      rw [List.nil_append] at hv
      have HV8 := Lib.hid hv
      have HB6 := Lib.hid (HB2.out.grow hg (fun q hq => (own_base HV3.out) q hq))
      clear hv hg
      refine hK.out _ _ HB6.out.1 (fun hHeld => ?_)
      clear hK K
      (try simp only [Act.put, List.setIfInBounds_toArray, List.set_cons_zero, List.set_cons_succ])
      refine wpAnyH_ready (rs := [4]) (by kernel_rfl) (by simp) ?_
      refine AllReadyH.cons rfl (fun K hK => ?_) AllReadyH.nil
      rw [if_pos (by rfl)]
      go_simp
      have HB10 := Lib.hid (HB6.out.on ((Below.refl _ _).alloc (Nat.le_refl _) (.cells #[] 35)))
      have HV11 : Hid (OwnC msC (W5.alloc (.cells #[] 35)) (w.heap.size + 2) 35 6 (.slice (some ⟨W5.heap.size, 0, none⟩) 0 0) []) := Lib.hid ((empty_rowM W5).mono HB6.out.big)
      have HV13 := Lib.hid (HV8.out.alloc (.cells #[] 35))
      refine hK.out _ _ HB10.out.1 (fun hHeld => ?_)
      clear hK K
      (try simp only [Act.put, List.setIfInBounds_toArray, List.set_cons_zero, List.set_cons_succ])
      generalize W5.heap.size = bv12 at HV11 ⊢
      generalize W5.alloc (.cells #[] 35) = W9 at HB10 HV13 HV11 ⊢
      refine wpAnyH_ready (rs := [7]) (by kernel_rfl) (by simp) ?_
      refine AllReadyH.cons rfl (fun K hK => ?_) AllReadyH.nil
      rw [if_pos (by rfl)]
      refine wp_app_rowM _ _ rfl (w.heap.size + 2) _ [] rfl HV11.out B0 p2 n2 c2 ys rfl (HO2.out _ HB10.out.2.2) (by rw [hy]; show 0 + n2 ≤ 2000000; omega) HB10.out.big ?_
      intro v16 W14 hv hg
      rw [List.nil_append] at hv
      have HV17 := Lib.hid hv
      have HB15 := Lib.hid (HB10.out.grow hg (fun q hq => (own_base HV11.out) q hq))
      have HV18 := Lib.hid (own_beside HV13.out hg (own_two HV11.out HV13.out (by decide)))
      clear hv hg
      refine hK.out _ _ HB15.out.1 (fun hHeld => ?_)
      clear hK K
      (try simp only [Act.put, List.setIfInBounds_toArray, List.set_cons_zero, List.set_cons_succ])
      obtain ⟨q1, l1, e1⟩ := own_shape10 HV18.out hx
      obtain ⟨q2, l2, e2⟩ := own_shape10 HV17.out hy
      subst e1 e2
      refine takeQ (i := 8) (k := 11) (v := .agg #[.slice q1 n1 l1, .slice q2 n2 l2]) rfl (by rfl) (by kernel_rfl) (by kernel_rfl) (by kernel_rfl) (fun _ _ _ h => h) (by rfl) ?_ hHeld ?_
      · intro w1 hSw; go_simp
      (try simp only [Act.put, List.setIfInBounds_toArray, List.set_cons_zero, List.set_cons_succ])
      obtain ⟨⟨c0, c1_⟩, f0, f1⟩ := arr9_two HB15.out.2.1
      refine wpAnyH_ready (rs := [9]) (by kernel_rfl) (by simp) ?_
      refine AllReadyH.cons rfl (fun K hK => ?_) AllReadyH.nil
      rw [if_pos (by rfl)]
      go_simp
      have hE := ((HB15.out.2.1.put 0 (.slice q1 n1 l1)).put 1 (.slice q2 n2 l2))
      have hA := arr_other (arr_other HB15.out.1 (w.heap.size + 1) 0 (.slice q1 n1 l1) (by omega)) (w.heap.size + 1) 1 (.slice q2 n2 l2) (by omega)
      refine hK.out _ _ hA (fun hHeld => ?_)
      clear hK K
      (try simp only [Act.put, List.setIfInBounds_toArray, List.set_cons_zero, List.set_cons_succ])
      refine wpAnyH_done (by kernel_rfl) ?_ _
      clear hHeld
      (try go_wp2)
      exact bodyPost_ret (v := .agg #[.slice q1 n1 l1, .slice q2 n2 l2]) (results_cell_row (P := Tryz.prog) Tryz.results48 _ _ (w.heap.size + 1) 33 _ (0, 0) _ rfl hE Tryz.underlying33 rfl (by kernel_rfl)) rfl ⟨⟨q1, l1, q2, l2, rfl, ((HV18.out.low (a := ⟨w.heap.size + 1, 0, none⟩) (Nat.lt_succ_self _) (.slice q1 n1 l1)).low (a := ⟨w.heap.size + 1, 1, none⟩) (Nat.lt_succ_self _) (.slice q2 n2 l2)).mono (Nat.le_add_right _ _), ((HV17.out.low (a := ⟨w.heap.size + 1, 0, none⟩) (Nat.lt_succ_self _) (.slice q1 n1 l1)).low (a := ⟨w.heap.size + 1, 1, none⟩) (Nat.lt_succ_self _) (.slice q2 n2 l2)).mono (Nat.le_add_right _ _)⟩, (HB15.out.2.2.setCell (p := ⟨w.heap.size + 1, 0, none⟩) (Nat.le_succ _) _).setCell (p := ⟨w.heap.size + 1, 1, none⟩) (Nat.le_succ _) _⟩
    · skip
      rw [if_pos (by rfl)]
      go_simp
      have HB20 := Lib.hid (HB2.out.on ((Below.refl _ _).alloc (Nat.le_refl _) (.cells #[] 35)))
      have HV21 : Hid (OwnC msC (W1.alloc (.cells #[] 35)) (w.heap.size + 2) 35 6 (.slice (some ⟨W1.heap.size, 0, none⟩) 0 0) []) := Lib.hid ((empty_rowM W1).mono HB2.out.big)
      have HV23 := Lib.hid (HV3.out.alloc (.cells #[] 35))
      refine hK.out _ _ HB20.out.1 (fun hHeld => ?_)
      clear hK K
      (try simp only [Act.put, List.setIfInBounds_toArray, List.set_cons_zero, List.set_cons_succ])
      generalize W1.heap.size = bv22 at HV21 ⊢
      generalize W1.alloc (.cells #[] 35) = W19 at HB20 HV23 HV21 ⊢
      refine wpAnyH_ready (rs := [3]) (by kernel_rfl) (by simp) ?_
      refine AllReadyH.cons rfl (fun K hK => ?_) AllReadyH.nil
      rw [if_pos (by rfl)]
      refine wp_app_row9 _ _ rfl (w.heap.size + 2) _ [] rfl HV23.out B0 p1 n1 c1 xs rfl (HO1.out _ HB20.out.2.2) (by rw [hx]; show 0 + n1 ≤ 2000000; omega) HB20.out.big ?_
      intro v26 W24 hv hg
      rw [List.nil_append] at hv
      have HV27 := Lib.hid hv
      have HB25 := Lib.hid (HB20.out.grow hg (fun q hq => (own_base HV23.out) q hq))
      have HV28 := Lib.hid (own_beside HV21.out hg (own_two HV23.out HV21.out (by decide)))
      clear hv hg
      refine hK.out _ _ HB25.out.1 (fun hHeld => ?_)
      clear hK K
      (try simp only [Act.put, List.setIfInBounds_toArray, List.set_cons_zero, List.set_cons_succ])
      refine wpAnyH_ready (rs := [7]) (by kernel_rfl) (by simp) ?_
      refine AllReadyH.cons rfl (fun K hK => ?_) AllReadyH.nil
      rw [if_pos (by rfl)]
      refine wp_app_rowM _ _ rfl (w.heap.size + 2) _ [] rfl HV28.out B0 p2 n2 c2 ys rfl (HO2.out _ HB25.out.2.2) (by rw [hy]; show 0 + n2 ≤ 2000000; omega) HB25.out.big ?_
      intro v31 W29 hv hg
      rw [List.nil_append] at hv
      have HV32 := Lib.hid hv
      have HB30 := Lib.hid (HB25.out.grow hg (fun q hq => (own_base HV28.out) q hq))
      have HV33 := Lib.hid (own_beside HV27.out hg (own_two HV28.out HV27.out (by decide)))
      clear hv hg
      refine hK.out _ _ HB30.out.1 (fun hHeld => ?_)
      clear hK K
      (try simp only [Act.put, List.setIfInBounds_toArray, List.set_cons_zero, List.set_cons_succ])
      obtain ⟨q1, l1, e1⟩ := own_shape10 HV33.out hx
      obtain ⟨q2, l2, e2⟩ := own_shape10 HV32.out hy
      subst e1 e2
      refine takeQ (i := 8) (k := 11) (v := .agg #[.slice q1 n1 l1, .slice q2 n2 l2]) rfl (by rfl) (by kernel_rfl) (by kernel_rfl) (by kernel_rfl) (fun _ _ _ h => h) (by rfl) ?_ hHeld ?_
      · intro w1 hSw; go_simp
      (try simp only [Act.put, List.setIfInBounds_toArray, List.set_cons_zero, List.set_cons_succ])
      obtain ⟨⟨c0, c1_⟩, f0, f1⟩ := arr9_two HB30.out.2.1
      refine wpAnyH_ready (rs := [9]) (by kernel_rfl) (by simp) ?_
      refine AllReadyH.cons rfl (fun K hK => ?_) AllReadyH.nil
      rw [if_pos (by rfl)]
      go_simp
      have hE := ((HB30.out.2.1.put 0 (.slice q1 n1 l1)).put 1 (.slice q2 n2 l2))
      have hA := arr_other (arr_other HB30.out.1 (w.heap.size + 1) 0 (.slice q1 n1 l1) (by omega)) (w.heap.size + 1) 1 (.slice q2 n2 l2) (by omega)
      refine hK.out _ _ hA (fun hHeld => ?_)
      clear hK K
      (try simp only [Act.put, List.setIfInBounds_toArray, List.set_cons_zero, List.set_cons_succ])
      refine wpAnyH_done (by kernel_rfl) ?_ _
      clear hHeld
      (try go_wp2)
      exact bodyPost_ret (v := .agg #[.slice q1 n1 l1, .slice q2 n2 l2]) (results_cell_row (P := Tryz.prog) Tryz.results48 _ _ (w.heap.size + 1) 33 _ (0, 0) _ rfl hE Tryz.underlying33 rfl (by kernel_rfl)) rfl ⟨⟨q1, l1, q2, l2, rfl, ((HV33.out.low (a := ⟨w.heap.size + 1, 0, none⟩) (Nat.lt_succ_self _) (.slice q1 n1 l1)).low (a := ⟨w.heap.size + 1, 1, none⟩) (Nat.lt_succ_self _) (.slice q2 n2 l2)).mono (Nat.le_add_right _ _), ((HV32.out.low (a := ⟨w.heap.size + 1, 0, none⟩) (Nat.lt_succ_self _) (.slice q1 n1 l1)).low (a := ⟨w.heap.size + 1, 1, none⟩) (Nat.lt_succ_self _) (.slice q2 n2 l2)).mono (Nat.le_add_right _ _)⟩, (HB30.out.2.2.setCell (p := ⟨w.heap.size + 1, 0, none⟩) (Nat.le_succ _) _).setCell (p := ⟨w.heap.size + 1, 1, none⟩) (Nat.le_succ _) _⟩
  · skip
    rw [if_pos (by rfl)]
    go_simp
    have HB35 := Lib.hid (HB0.out.on ((Below.refl _ _).alloc (Nat.le_refl _) (.cells #[] 35)))
    have HV36 : Hid (OwnC msC (W0.alloc (.cells #[] 35)) (w.heap.size + 2) 35 6 (.slice (some ⟨W0.heap.size, 0, none⟩) 0 0) []) := Lib.hid ((empty_rowM W0).mono HB0.out.big)
    refine hK.out _ _ HB35.out.1 (fun hHeld => ?_)
    clear hK K
    (try simp only [Act.put, List.setIfInBounds_toArray, List.set_cons_zero, List.set_cons_succ])
    generalize W0.heap.size = bv37 at HV36 ⊢
    generalize W0.alloc (.cells #[] 35) = W34 at HB35 HV36 ⊢
    refine wpAnyH_ready (rs := [0]) (by kernel_rfl) (by simp) ?_
    refine AllReadyH.cons rfl (fun K hK => ?_) AllReadyH.nil
    rw [if_pos (by rfl)]
    go_simp
    have HB39 := Lib.hid (HB35.out.on ((Below.refl _ _).alloc (Nat.le_refl _) (.cells #[] 70)))
    have HV40 : Hid (OwnC seC (W34.alloc (.cells #[] 70)) (w.heap.size + 2) 70 4 (.slice (some ⟨W34.heap.size, 0, none⟩) 0 0) []) := Lib.hid ((empty_row9 W34).mono HB35.out.big)
    have HV42 := Lib.hid (HV36.out.alloc (.cells #[] 70))
    refine hK.out _ _ HB39.out.1 (fun hHeld => ?_)
    clear hK K
    (try simp only [Act.put, List.setIfInBounds_toArray, List.set_cons_zero, List.set_cons_succ])
    generalize W34.heap.size = bv41 at HV40 ⊢
    generalize W34.alloc (.cells #[] 70) = W38 at HB39 HV40 HV42 ⊢
    refine wpAnyH_ready (rs := [3]) (by kernel_rfl) (by simp) ?_
    refine AllReadyH.cons rfl (fun K hK => ?_) AllReadyH.nil
    rw [if_pos (by rfl)]
    refine wp_app_row9 _ _ rfl (w.heap.size + 2) _ [] rfl HV40.out B0 p1 n1 c1 xs rfl (HO1.out _ HB39.out.2.2) (by rw [hx]; show 0 + n1 ≤ 2000000; omega) HB39.out.big ?_
    intro v45 W43 hv hg
    rw [List.nil_append] at hv
    have HV46 := Lib.hid hv
    have HB44 := Lib.hid (HB39.out.grow hg (fun q hq => (own_base HV40.out) q hq))
    have HV47 := Lib.hid (own_beside HV42.out hg (own_two HV40.out HV42.out (by decide)))
    clear hv hg
    refine hK.out _ _ HB44.out.1 (fun hHeld => ?_)
    clear hK K
    (try simp only [Act.put, List.setIfInBounds_toArray, List.set_cons_zero, List.set_cons_succ])
    refine wpAnyH_ready (rs := [7]) (by kernel_rfl) (by simp) ?_
    refine AllReadyH.cons rfl (fun K hK => ?_) AllReadyH.nil
    rw [if_pos (by rfl)]
    refine wp_app_rowM _ _ rfl (w.heap.size + 2) _ [] rfl HV47.out B0 p2 n2 c2 ys rfl (HO2.out _ HB44.out.2.2) (by rw [hy]; show 0 + n2 ≤ 2000000; omega) HB44.out.big ?_
    intro v50 W48 hv hg
    rw [List.nil_append] at hv
    have HV51 := Lib.hid hv
    have HB49 := Lib.hid (HB44.out.grow hg (fun q hq => (own_base HV47.out) q hq))
    have HV52 := Lib.hid (own_beside HV46.out hg (own_two HV47.out HV46.out (by decide)))
    clear hv hg
    refine hK.out _ _ HB49.out.1 (fun hHeld => ?_)
    clear hK K
    (try simp only [Act.put, List.setIfInBounds_toArray, List.set_cons_zero, List.set_cons_succ])
    obtain ⟨q1, l1, e1⟩ := own_shape10 HV52.out hx
    obtain ⟨q2, l2, e2⟩ := own_shape10 HV51.out hy
    subst e1 e2
    refine takeQ (i := 8) (k := 11) (v := .agg #[.slice q1 n1 l1, .slice q2 n2 l2]) rfl (by rfl) (by kernel_rfl) (by kernel_rfl) (by kernel_rfl) (fun _ _ _ h => h) (by rfl) ?_ hHeld ?_
    · intro w1 hSw; go_simp
    (try simp only [Act.put, List.setIfInBounds_toArray, List.set_cons_zero, List.set_cons_succ])
    obtain ⟨⟨c0, c1_⟩, f0, f1⟩ := arr9_two HB49.out.2.1
    refine wpAnyH_ready (rs := [9]) (by kernel_rfl) (by simp) ?_
    refine AllReadyH.cons rfl (fun K hK => ?_) AllReadyH.nil
    rw [if_pos (by rfl)]
    go_simp
    have hE := ((HB49.out.2.1.put 0 (.slice q1 n1 l1)).put 1 (.slice q2 n2 l2))
    have hA := arr_other (arr_other HB49.out.1 (w.heap.size + 1) 0 (.slice q1 n1 l1) (by omega)) (w.heap.size + 1) 1 (.slice q2 n2 l2) (by omega)
    refine hK.out _ _ hA (fun hHeld => ?_)
    clear hK K
    (try simp only [Act.put, List.setIfInBounds_toArray, List.set_cons_zero, List.set_cons_succ])
    refine wpAnyH_done (by kernel_rfl) ?_ _
    clear hHeld
    (try go_wp2)
    exact bodyPost_ret (v := .agg #[.slice q1 n1 l1, .slice q2 n2 l2]) (results_cell_row (P := Tryz.prog) Tryz.results48 _ _ (w.heap.size + 1) 33 _ (0, 0) _ rfl hE Tryz.underlying33 rfl (by kernel_rfl)) rfl ⟨⟨q1, l1, q2, l2, rfl, ((HV52.out.low (a := ⟨w.heap.size + 1, 0, none⟩) (Nat.lt_succ_self _) (.slice q1 n1 l1)).low (a := ⟨w.heap.size + 1, 1, none⟩) (Nat.lt_succ_self _) (.slice q2 n2 l2)).mono (Nat.le_add_right _ _), ((HV51.out.low (a := ⟨w.heap.size + 1, 0, none⟩) (Nat.lt_succ_self _) (.slice q1 n1 l1)).low (a := ⟨w.heap.size + 1, 1, none⟩) (Nat.lt_succ_self _) (.slice q2 n2 l2)).mono (Nat.le_add_right _ _)⟩, (HB49.out.2.2.setCell (p := ⟨w.heap.size + 1, 0, none⟩) (Nat.le_succ _) _).setCell (p := ⟨w.heap.size + 1, 1, none⟩) (Nat.le_succ _) _⟩
end Go.Proofs.YtpjmcpfmnlfmdaaGreat

namespace Go.Proofs.YtpjmcpfmnlfmdaaGreat
set_option linter.unusedSimpArgs false
set_option linter.unusedVariables false
open Go.RowKit Go.Joins

theorem MOwn.moved {f : Nat → Nat → Value} {k B B2 e size n : Nat} {u v : Value} {w W : World} (h : MOwn f k B e size v n w) (hF : MFrame B2 u w W) (hne : ∀ a b, u.ownBlock = some a → v.ownBlock = some b → b ≠ a) : MOwn f k B e size v n W := by
  obtain ⟨p, cap, h1, h2⟩ := h
  refine ⟨p, cap, h1, ?_⟩
  rcases h2 with h0 | ⟨g, w0, hp, ⟨L, hL, hM⟩, _, _, _⟩
  · exact .inl h0
  · have hlt := hL.lt g rfl
    refine .inr ⟨g, W, hp, ⟨L, ?_, hM⟩, Below.refl _ _, Nat.le_trans (Nat.le_of_lt (Nat.lt_of_le_of_lt hlt.1 hlt.2)) hF.2.1, Keep.refl _ _⟩
    refine ⟨hL.1, ?_⟩
    rcases hL.2 with h0 | ⟨g', cap', cur, q1, q2, q3, q4⟩
    · exact .inl h0
    · have hg : g' = g := by injection q1 with q1; injection q1 with q1; injection q1 with q1; exact q1.symm
      exact .inr ⟨g', cap', cur, q1, q2, (hF.2.2 g' (Array.getElem?_eq_some_iff.1 q3).1 (fun a ha => hne a g' ha (by rw [h1, hp, hg]; rfl))).trans q3, q4⟩
/-- What marking two slices leaves as it was. -/
def MFrame2 (B : Nat) (u v : Value) (w W : World) : Prop := Below B w W ∧ w.heap.size ≤ W.heap.size ∧ ∀ k, k < w.heap.size → (∀ g, u.ownBlock = some g → k ≠ g) → (∀ g, v.ownBlock = some g → k ≠ g) → W.heap[k]? = w.heap[k]?
theorem MFrame.two {B : Nat} {u v : Value} {w W W2 : World} (h : MFrame B u w W) (h2 : MFrame B v W W2) : MFrame2 B u v w W2 :=
  ⟨h.1.trans h2.1, Nat.le_trans h.2.1 h2.2.1, fun k hk h3 h4 => (h2.2.2 k (Nat.lt_of_lt_of_le hk h.2.1) h4).trans (h.2.2 k hk h3)⟩
theorem mown_frame2 {α : Type} {enc : α → List Value} {B B2 e size : Nat} {u v x : Value} {xs : List α} {w W : World} (h : MFrame2 B u v w W) (ho : OwnC enc w B2 e size x xs) (hu : ∀ a b, u.ownBlock = some a → x.ownBlock = some b → b ≠ a) (hv : ∀ a b, v.ownBlock = some a → x.ownBlock = some b → b ≠ a) : OwnC enc W B2 e size x xs := by
  refine ⟨ho.1, ?_⟩
  rcases ho.2 with h0 | ⟨g, cap, cur, h1, h2, h3, h4⟩
  · exact .inl h0
  · refine .inr ⟨g, cap, cur, h1, h2, (h.2.2 g (Array.getElem?_eq_some_iff.1 h3).1 (fun a ha => hu a g ha (by rw [h1]; rfl)) (fun a ha => hv a g ha (by rw [h1]; rfl))).trans h3, h4⟩
theorem mframe_below {B : Nat} {v : Value} {w W W2 : World} (hb : Below w.heap.size w W) (hB : B ≤ w.heap.size) (h : MFrame B v W W2) : MFrame B v w W2 :=
  ⟨(hb.mono hB).trans h.1, Nat.le_trans hb.size h.2.1, fun k hk hne => (h.2.2 k (Nat.lt_of_lt_of_le hk hb.size) hne).trans (hb.block k hk)⟩
set_option maxRecDepth 100000 in
set_option maxHeartbeats 1000000 in
theorem eq_mb (xs : List SeL) (ys : List MsL) (p1 p2 q1 q2 : Option Addr) (n1 n2 k1 k2 l1 l2 : Nat) (w : World) (hn1 : n1 ≤ 2000000) (hn2 : n2 ≤ 2000000) (hx : xs.length = n1) (hy : ys.length = n2) (hp1 : RowC seC 4 w p1 xs) (hq1 : RowC seC 4 w q1 xs) (hp2 : RowC msC 6 w p2 ys) (hq2 : RowC msC 6 w q2 ys) :
    Calls Tryz.prog 13 #[.agg #[.slice p1 n1 k1, .slice p2 n2 k2], .agg #[.slice q1 n1 l1, .slice q2 n2 l2]] w fun e w' => e = .returned (.bool true) ∧ Below w.heap.size w w' := by
  have i1 := fun W hp hq => eqs_se xs p1 q1 k1 l1 W (by omega) hp hq
  have i2 := fun W hp hq => eqs_ms ys p2 q2 k2 l2 W (by omega) hp hq
  rw [hx] at i1
  rw [hy] at i2
  have HK := Lib.hid (fun w1 (h : Below ((w.alloc (.cells #[.slice p1 n1 k1, .slice p2 n2 k2] 33)).alloc (.cells #[.slice q1 n1 l1, .slice q2 n2 l2] 33)).heap.size ((w.alloc (.cells #[.slice p1 n1 k1, .slice p2 n2 k2] 33)).alloc (.cells #[.slice q1 n1 l1, .slice q2 n2 l2] 33)) w1) => twoS (cs := [.slice p1 n1 k1, .slice p2 n2 k2]) (ds := [.slice q1 n1 l1, .slice q2 n2 l2]) h)
  have HB0 := Lib.hid (((Below.refl w.heap.size w).alloc (Nat.le_refl _) (.cells #[.slice p1 n1 k1, .slice p2 n2 k2] 33)).alloc (by simp) (.cells #[.slice q1 n1 l1, .slice q2 n2 l2] 33))
  have HP1 := Lib.hid (fun W (h : Below w.heap.size w W) => hp1.on h)
  have HQ1 := Lib.hid (fun W (h : Below w.heap.size w W) => hq1.on h)
  have HP2 := Lib.hid (fun W (h : Below w.heap.size w W) => hp2.on h)
  have HQ2 := Lib.hid (fun W (h : Below w.heap.size w W) => hq2.on h)
  clear hx hy hp1 hq1 hp2 hq2
  go_enter Tryz.func13, Tryz.ntmps13
  go_wp2_with (first
    | (go_at_call 33; go_fit (i1 _ (HP1.out _ HB0.out) (HQ1.out _ HB0.out)); rintro e w1 ⟨rfl, hb1⟩; obtain ⟨hA, hB, hb⟩ := HK.out _ hb1; have HB1 := Lib.hid hb; obtain ⟨⟨c0, c1⟩, _⟩ := arr9_two hA; obtain ⟨⟨d0, d1⟩, _⟩ := arr9_two hB; clear hA hB hb1 hb)
    | (go_at_call 34; go_fit (i2 _ (HP2.out _ HB1.out) (HQ2.out _ HB1.out)); rintro e w2 ⟨rfl, hb2⟩; have HB2 := Lib.hid (HB1.out.trans (hb2.mono HB1.out.size)); clear hb2))
  go_ret
  exact ⟨rfl, HB2.out⟩
set_option maxRecDepth 100000 in
set_option maxHeartbeats 1000000 in
/-- Marking a mailbox of the call's own. -/
theorem mark_mb (xs : List SeL) (ys : List MsL) (p1 p2 : Option Addr) (n1 n2 k1 k2 B : Nat) (w : World) (hn1 : n1 ≤ 1048576) (hn2 : n2 ≤ 1048576) (hx : xs.length = n1) (hy : ys.length = n2) (hB : B ≤ w.heap.size)
    (h1 : OwnC seC w B 70 4 (.slice p1 n1 k1) xs) (h2 : OwnC msC w B 35 6 (.slice p2 n2 k2) ys) :
    Calls Tryz.prog 14 #[.agg #[.slice p1 n1 k1, .slice p2 n2 k2], .int .i64 1] w fun e w' => e = .returned (.int .i64 (1 + n1 * 4 + n2 * 6)) ∧ (MOwn mk_se 1 B 70 4 (.slice p1 n1 k1) n1 w' ∧ MOwn mk_ms (1 + n1 * 4) B 35 6 (.slice p2 n2 k2) n2 w') ∧ MFrame2 B (.slice p1 n1 k1) (.slice p2 n2 k2) w w' := by
  have i1 := fun W (hB : B ≤ W.heap.size) h => marks_se seC B 1 (.slice p1 n1 k1) xs W (by decide) (by decide) (by omega) hB h
  have i2 := fun W (hB : B ≤ W.heap.size) h => marks_ms msC B (1 + n1 * 4) (.slice p2 n2 k2) ys W (by omega) (by omega) (by omega) hB h
  rw [hx] at i1
  rw [hy] at i2
  have hw := own_two h1 h2 (by decide)
  have hw2 := own_two h2 h1 (by decide)
  have HO1 := Lib.hid (h1.alloc (.cells #[.slice p1 n1 k1, .slice p2 n2 k2] 33))
  have HO2 := Lib.hid (h2.alloc (.cells #[.slice p1 n1 k1, .slice p2 n2 k2] 33))
  have HA := Lib.hid (Arr.fresh w 33 [.slice p1 n1 k1, .slice p2 n2 k2])
  have HB0 := Lib.hid ((Below.refl w.heap.size w).alloc (Nat.le_refl _) (.cells #[.slice p1 n1 k1, .slice p2 n2 k2] 33))
  have HL1 := Lib.hid (own_ltT h1)
  have HL2 := Lib.hid (own_ltT h2)
  have HW := Lib.hid hw
  have HW2 := Lib.hid hw2
  have HB := Lib.hid hB
  clear h1 h2 hx hy hB hw hw2
  go_enter Tryz.func14, Tryz.ntmps14
  go_wp2_with (first
    | (go_at_call 35; go_fit (i1 _ (Nat.le_trans HB.out HB0.out.size) HO1.out); rintro e w1 ⟨rfl, hM, hF⟩; have HM1 := Lib.hid hM; have HF1 := Lib.hid hF; obtain ⟨⟨c0, c1⟩, _⟩ := arr9_two (hF.arr HA.out (fun g hg => by have := (HL1.out g hg).2; omega)); clear hM hF)
    | (go_at_call 36; go_fit (i2 _ (Nat.le_trans HB.out (Nat.le_trans HB0.out.size HF1.out.2.1)) (mown_frame HF1.out HO2.out HW.out)); rintro e w2 ⟨rfl, hM, hF⟩; have HM2 := Lib.hid hM; have HM1b := Lib.hid (HM1.out.moved hF HW2.out); have HF2 := Lib.hid ((mframe_below HB0.out HB.out HF1.out).two hF); clear hM hF))
  go_ret
  exact ⟨ret_int (by omega), ⟨HM1b.out, HM2.out⟩, HF2.out⟩
set_option maxRecDepth 100000 in
set_option maxHeartbeats 1000000 in
theorem held_mb (p1 p2 : Option Addr) (n1 n2 k1 k2 B : Nat) (w : World) (hn1 : n1 ≤ 1048576) (hn2 : n2 ≤ 1048576) (h1 : MOwn mk_se 1 B 70 4 (.slice p1 n1 k1) n1 w) (h2 : MOwn mk_ms (1 + n1 * 4) B 35 6 (.slice p2 n2 k2) n2 w) :
    Calls Tryz.prog 38 #[.agg #[.slice p1 n1 k1, .slice p2 n2 k2], .int .i64 1] w fun e w' => e = .returned (.int .i64 (1 + n1 * 4 + n2 * 6)) ∧ Below w.heap.size w w' := by
  have i1 := fun W h => helds_se B 1 n1 (.slice p1 n1 k1) W (by decide) (by decide) (by omega) h
  have i2 := fun W h => helds_ms B (1 + n1 * 4) n2 (.slice p2 n2 k2) W (by omega) (by omega) (by omega) h
  have HK := Lib.hid (fun w1 (h : Below (w.alloc (.cells #[.slice p1 n1 k1, .slice p2 n2 k2] 33)).heap.size (w.alloc (.cells #[.slice p1 n1 k1, .slice p2 n2 k2] 33)) w1) => oneM (cs := [.slice p1 n1 k1, .slice p2 n2 k2]) h)
  have H1 := Lib.hid (fun W (h : Below w.heap.size w W) => h1.on h)
  have H2 := Lib.hid (fun W (h : Below w.heap.size w W) => h2.on h)
  have hpos1 : ¬ ((1 : Int) + n1 * 4 < 0) := by omega
  have hpos2 : ¬ (((1 + n1 * 4 : Nat) : Int) + n2 * 6 < 0) := by omega
  have HB0 := Lib.hid ((Below.refl w.heap.size w).alloc (Nat.le_refl _) (.cells #[.slice p1 n1 k1, .slice p2 n2 k2] 33))
  clear h1 h2
  go_enter Tryz.func38, Tryz.ntmps38
  go_wp2_with (first
    | (go_at_call 64; go_fit (i1 _ (H1.out _ HB0.out)); rintro e w1 ⟨rfl, hb1⟩; obtain ⟨hA, hb⟩ := HK.out _ hb1; obtain ⟨⟨c0, c1⟩, _⟩ := arr9_two hA; have HB1 := Lib.hid hb; clear hA hb1 hb)
    | (go_at_call 65; go_fit (i2 _ (H2.out _ HB1.out)); rintro e w2 ⟨rfl, hb2⟩; have HB2 := Lib.hid (HB1.out.trans (hb2.mono HB1.out.size)); clear hb2))
  go_ret
  exact ⟨ret_int (by omega), HB2.out⟩
end Go.Proofs.YtpjmcpfmnlfmdaaGreat

namespace Go.Proofs.YtpjmcpfmnlfmdaaGreat
set_option linter.unusedSimpArgs false
set_option linter.unusedVariables false
open Go.RowKit Go.Joins

/-- The rows of an answer. -/
def RoOwn (B : Nat) (W : World) (R : RoL) (p1 : Option Addr) (k1 : Nat) (p2 : Option Addr) (k2 : Nat) (p3 : Option Addr) (k3 : Nat) : Prop :=
  OwnC seC W B 70 4 (.slice p1 R.l.length k1) R.l ∧ OwnC msC W B 35 6 (.slice p2 R.ks.length k2) R.ks ∧ OwnC strC W B 9 1 (.slice p3 R.to.length k3) R.to
theorem RoOwn.on {B : Nat} {W W2 : World} {R : RoL} {p1 p2 p3 : Option Addr} {k1 k2 k3 : Nat} (h : RoOwn B W R p1 k1 p2 k2 p3 k3) (hb : Below W.heap.size W W2) : RoOwn B W2 R p1 k1 p2 k2 p3 k3 := ⟨h.1.on hb, h.2.1.on hb, h.2.2.on hb⟩
theorem RoOwn.mono {B B2 : Nat} {W : World} {R : RoL} {p1 p2 p3 : Option Addr} {k1 k2 k3 : Nat} (h : RoOwn B W R p1 k1 p2 k2 p3 k3) (hB : B2 ≤ B) : RoOwn B2 W R p1 k1 p2 k2 p3 k3 := ⟨h.1.mono hB, h.2.1.mono hB, h.2.2.mono hB⟩
/-- .. that are marked. -/
def RoMkd (B : Nat) (W : World) (R : RoL) (p1 : Option Addr) (k1 : Nat) (p2 : Option Addr) (k2 : Nat) (p3 : Option Addr) (k3 : Nat) : Prop :=
  MOwn mk_se 1 B 70 4 (.slice p1 R.l.length k1) R.l.length W ∧ MOwn mk_ms (1 + R.l.length * 4) B 35 6 (.slice p2 R.ks.length k2) R.ks.length W ∧ MOwn mk_ss (1 + R.l.length * 4 + R.ks.length * 6) B 9 1 (.slice p3 R.to.length k3) R.to.length W
theorem RoMkd.on {B : Nat} {W W2 : World} {R : RoL} {p1 p2 p3 : Option Addr} {k1 k2 k3 : Nat} (h : RoMkd B W R p1 k1 p2 k2 p3 k3) (hb : Below W.heap.size W W2) : RoMkd B W2 R p1 k1 p2 k2 p3 k3 := ⟨h.1.on hb, h.2.1.on hb, h.2.2.on hb⟩
/-- A small answer. -/
def RoL.le (R : RoL) : Prop := R.l.length ≤ 6 ∧ R.ks.length ≤ 6 ∧ R.to.length ≤ 6
set_option maxRecDepth 100000 in
set_option maxHeartbeats 2000000 in
theorem eq_ro (R : RoL) (p1 p2 p3 q1 q2 q3 : Option Addr) (k1 k2 k3 l1 l2 l3 B1 B2 : Nat) (w : World) (hR : R.le) (hp : RoOwn B1 w R p1 k1 p2 k2 p3 k3) (hq : RoOwn B2 w R q1 l1 q2 l2 q3 l3) :
    Calls Tryz.prog 12 #[roV R p1 k1 p2 k2 p3 k3, roV R q1 l1 q2 l2 q3 l3] w fun e w' => e = .returned (.bool true) ∧ Below w.heap.size w w' := by
  obtain ⟨r1, r2, r3⟩ := hR
  have i1 := fun W h1 h2 h3 h4 => eq_mb R.l R.ks p1 p2 q1 q2 R.l.length R.ks.length k1 k2 l1 l2 W (by omega) (by omega) rfl rfl h1 h2 h3 h4
  have i2 := fun W h1 h2 => eqs_ss R.to p3 q3 k3 l3 W (by omega) h1 h2
  have i3 := fun W => eq_ms R.bk W
  have HK := Lib.hid (fun w1 (h : Below ((w.alloc (.cells (roC R p1 k1 p2 k2 p3 k3).toArray 37)).alloc (.cells (roC R q1 l1 q2 l2 q3 l3).toArray 37)).heap.size ((w.alloc (.cells (roC R p1 k1 p2 k2 p3 k3).toArray 37)).alloc (.cells (roC R q1 l1 q2 l2 q3 l3).toArray 37)) w1) => twoS h)
  have HB0 := Lib.hid (((Below.refl w.heap.size w).alloc (Nat.le_refl _) (.cells (roC R p1 k1 p2 k2 p3 k3).toArray 37)).alloc (by simp) (.cells (roC R q1 l1 q2 l2 q3 l3).toArray 37))
  have HP := Lib.hid (fun W (h : Below w.heap.size w W) => hp.on h)
  have HQ := Lib.hid (fun W (h : Below w.heap.size w W) => hq.on h)
  clear hp hq r1 r2 r3
  unfold roV
  go_enter Tryz.func12, Tryz.ntmps12
  go_wp2_with (first
    | (go_at_call 13; go_fit (i1 _ (row_ownS (HP.out _ HB0.out).1) (row_ownS (HQ.out _ HB0.out).1) (row_ownM (HP.out _ HB0.out).2.1) (row_ownM (HQ.out _ HB0.out).2.1)); rintro e w1 ⟨rfl, hb1⟩; have HH1 := Lib.hid (HK.out _ hb1); obtain ⟨⟨c0, c1, c2, c3, c4, c5, c6, c7, c8, c9⟩, _⟩ := arr_ten HH1.out.1; obtain ⟨⟨d0, d1, d2, d3, d4, d5, d6, d7, d8, d9⟩, _⟩ := arr_ten HH1.out.2.1; clear hb1)
    | (go_at_call 31; go_fit (i2 _ (row_ownT (HP.out _ HH1.out.2.2).2.2) (row_ownT (HQ.out _ HH1.out.2.2).2.2)); rintro e w2 ⟨rfl, hb2⟩; have HB2 := Lib.hid (HH1.out.2.2.trans (hb2.mono HH1.out.2.2.size)); obtain ⟨⟨c0, c1, c2, c3, c4, c5, c6, c7, c8, c9⟩, _⟩ := arr_ten (arr9_on HH1.out.1 hb2); obtain ⟨⟨d0, d1, d2, d3, d4, d5, d6, d7, d8, d9⟩, _⟩ := arr_ten (arr9_on HH1.out.2.1 hb2); have HX2 := Lib.hid (And.intro (arr9_on HH1.out.1 hb2) (arr9_on HH1.out.2.1 hb2)); clear hb2)
    | (go_at_call 32; go_fit (i3 _); rintro e w3 ⟨rfl, hb3⟩; have HB3 := Lib.hid (HB2.out.trans (hb3.mono HB2.out.size)); obtain ⟨⟨c0, c1, c2, c3, c4, c5, c6, c7, c8, c9⟩, _⟩ := arr_ten (arr9_on HX2.out.1 hb3); obtain ⟨⟨d0, d1, d2, d3, d4, d5, d6, d7, d8, d9⟩, _⟩ := arr_ten (arr9_on HX2.out.2 hb3); clear hb3))
  go_ret
  exact ⟨rfl, HB3.out⟩
/-- What marking three slices leaves as it was. -/
def MFrame3 (B : Nat) (u v x : Value) (w W : World) : Prop := Below B w W ∧ w.heap.size ≤ W.heap.size ∧ ∀ k, k < w.heap.size → (∀ g, u.ownBlock = some g → k ≠ g) → (∀ g, v.ownBlock = some g → k ≠ g) → (∀ g, x.ownBlock = some g → k ≠ g) → W.heap[k]? = w.heap[k]?
theorem MFrame2.three {B : Nat} {u v x : Value} {w W W2 : World} (h : MFrame2 B u v w W) (h2 : MFrame B x W W2) : MFrame3 B u v x w W2 :=
  ⟨h.1.trans h2.1, Nat.le_trans h.2.1 h2.2.1, fun k hk h3 h4 h5 => (h2.2.2 k (Nat.lt_of_lt_of_le hk h.2.1) h5).trans (h.2.2 k hk h3 h4)⟩
theorem mframe2_below {B : Nat} {u v : Value} {w W W2 : World} (hb : Below w.heap.size w W) (hB : B ≤ w.heap.size) (h : MFrame2 B u v W W2) : MFrame2 B u v w W2 :=
  ⟨(hb.mono hB).trans h.1, Nat.le_trans hb.size h.2.1, fun k hk h1 h2 => (h.2.2 k (Nat.lt_of_lt_of_le hk hb.size) h1 h2).trans (hb.block k hk)⟩
set_option maxRecDepth 100000 in
set_option maxHeartbeats 2000000 in
theorem mark_ro (R : RoL) (p1 p2 p3 : Option Addr) (k1 k2 k3 B : Nat) (w : World) (hR : R.le) (hB : B ≤ w.heap.size) (h : RoOwn B w R p1 k1 p2 k2 p3 k3) :
    Calls Tryz.prog 15 #[roV R p1 k1 p2 k2 p3 k3, .int .i64 1] w fun e w' => e = .returned (.int .i64 (1 + R.l.length * 4 + R.ks.length * 6 + R.to.length)) ∧ RoMkd B w' R p1 k1 p2 k2 p3 k3 ∧ MFrame3 B (.slice p1 R.l.length k1) (.slice p2 R.ks.length k2) (.slice p3 R.to.length k3) w w' := by
  obtain ⟨r1, r2, r3⟩ := hR
  obtain ⟨h1, h2, h3⟩ := h
  have i1 := fun W hB h1 h2 => mark_mb R.l R.ks p1 p2 R.l.length R.ks.length k1 k2 B W (by omega) (by omega) rfl rfl hB h1 h2
  have i2 := fun W (hB : B ≤ W.heap.size) h => marks_ss B (1 + R.l.length * 4 + R.ks.length * 6) (.slice p3 R.to.length k3) R.to W (by omega) (by omega) (by omega) hB h
  have HO1 := Lib.hid (h1.alloc (.cells (roC R p1 k1 p2 k2 p3 k3).toArray 37))
  have HO2 := Lib.hid (h2.alloc (.cells (roC R p1 k1 p2 k2 p3 k3).toArray 37))
  have HO3 := Lib.hid (h3.alloc (.cells (roC R p1 k1 p2 k2 p3 k3).toArray 37))
  have HA := Lib.hid (Arr.fresh w 37 (roC R p1 k1 p2 k2 p3 k3))
  have HB0 := Lib.hid ((Below.refl w.heap.size w).alloc (Nat.le_refl _) (.cells (roC R p1 k1 p2 k2 p3 k3).toArray 37))
  have HL1 := Lib.hid (own_ltT h1)
  have HL2 := Lib.hid (own_ltT h2)
  have HW13 := Lib.hid (own_two h1 h3 (by decide))
  have HW23 := Lib.hid (own_two h2 h3 (by decide))
  have HW31 := Lib.hid (own_two h3 h1 (by decide))
  have HW32 := Lib.hid (own_two h3 h2 (by decide))
  have HB := Lib.hid hB
  have hc : (((1 + R.l.length * 4 + R.ks.length * 6 : Nat)) : Int) = 1 + R.l.length * 4 + R.ks.length * 6 := by omega
  rw [hc] at i2
  clear h1 h2 h3 hB hc
  unfold roV
  go_enter Tryz.func15, Tryz.ntmps15
  go_wp2_with (first
    | (go_at_call 14; go_fit (i1 _ (Nat.le_trans HB.out HB0.out.size) HO1.out HO2.out); rintro e w1 ⟨rfl, hM, hF⟩; have HM1 := Lib.hid hM; have HF1 := Lib.hid hF; obtain ⟨⟨c0, c1, c2, c3, c4, c5, c6, c7, c8, c9⟩, _⟩ := arr_ten ((hF.2.2 w.heap.size (by simp) (fun g hg => by have := (HL1.out g hg).2; omega) (fun g hg => by have := (HL2.out g hg).2; omega)).trans HA.out); clear hM hF)
    | (go_at_call 37; go_fit (i2 _ (Nat.le_trans HB.out (Nat.le_trans HB0.out.size HF1.out.2.1)) (mown_frame2 HF1.out HO3.out HW13.out HW23.out)); rintro e w2 ⟨rfl, hM, hF⟩; have HM2 := Lib.hid hM; have HM1b := Lib.hid (And.intro (HM1.out.1.moved hF HW31.out) (HM1.out.2.moved hF HW32.out)); have HF2 := Lib.hid ((mframe2_below HB0.out HB.out HF1.out).three hF); clear hM hF))
  go_ret
  exact ⟨ret_int (by omega), ⟨HM1b.out.1, HM1b.out.2, HM2.out⟩, HF2.out⟩
set_option maxRecDepth 100000 in
set_option maxHeartbeats 2000000 in
theorem held_ro (R : RoL) (p1 p2 p3 : Option Addr) (k1 k2 k3 B : Nat) (w : World) (hR : R.le) (h : RoMkd B w R p1 k1 p2 k2 p3 k3) :
    Calls Tryz.prog 16 #[roV R p1 k1 p2 k2 p3 k3, .int .i64 1] w fun e w' => e = .returned (.int .i64 (1 + R.l.length * 4 + R.ks.length * 6 + R.to.length)) ∧ Below w.heap.size w w' := by
  obtain ⟨r1, r2, r3⟩ := hR
  have i1 := fun W h1 h2 => held_mb p1 p2 R.l.length R.ks.length k1 k2 B W (by omega) (by omega) h1 h2
  have i2 := fun W h => helds_ss B (1 + R.l.length * 4 + R.ks.length * 6) R.to.length (.slice p3 R.to.length k3) W (by omega) (by omega) (by omega) h
  have HK := Lib.hid (fun w1 (h : Below (w.alloc (.cells (roC R p1 k1 p2 k2 p3 k3).toArray 37)).heap.size (w.alloc (.cells (roC R p1 k1 p2 k2 p3 k3).toArray 37)) w1) => oneM h)
  have HH := Lib.hid (fun W (hb : Below w.heap.size w W) => h.on hb)
  have HB0 := Lib.hid ((Below.refl w.heap.size w).alloc (Nat.le_refl _) (.cells (roC R p1 k1 p2 k2 p3 k3).toArray 37))
  have hc : (((1 + R.l.length * 4 + R.ks.length * 6 : Nat)) : Int) = 1 + R.l.length * 4 + R.ks.length * 6 := by omega
  rw [hc] at i2
  have hpos1 : ¬ ((1 : Int) + R.l.length * 4 + R.ks.length * 6 < 0) := by omega
  have hpos2 : ¬ ((1 : Int) + R.l.length * 4 + R.ks.length * 6 + R.to.length < 0) := by omega
  clear h hc
  unfold roV
  go_enter Tryz.func16, Tryz.ntmps16
  go_wp2_with (first
    | (go_at_call 38; go_fit (i1 _ (HH.out _ HB0.out).1 (HH.out _ HB0.out).2.1); rintro e w1 ⟨rfl, hb1⟩; have HH1 := Lib.hid (HK.out _ hb1); obtain ⟨⟨c0, c1, c2, c3, c4, c5, c6, c7, c8, c9⟩, _⟩ := arr_ten HH1.out.1; clear hb1)
    | (go_at_call 39; go_fit (i2 _ (HH.out _ HH1.out.2).2.2); rintro e w2 ⟨rfl, hb2⟩; have HB2 := Lib.hid (HH1.out.2.trans (hb2.mono HH1.out.2.size)); clear hb2))
  go_ret
  exact ⟨ret_int (by omega), HB2.out⟩
end Go.Proofs.YtpjmcpfmnlfmdaaGreat

namespace Go.Proofs.YtpjmcpfmnlfmdaaGreat
set_option linter.unusedSimpArgs false
set_option linter.unusedVariables false
open Go.RowKit Go.Joins

theorem own_ne10 {α : Type} {enc : α → List Value} {w : World} {B e size b t : Nat} {v : Value} {xs : List α} {cs : List Value} (h : OwnC enc w B e size v xs) (hA : Arr w b t cs) (hne : e ≠ t) : ∀ j, v.ownBlock = some j → b ≠ j := by
  intro j hj hb
  subst hb
  rcases h.2 with ⟨h0, _⟩ | ⟨g, c, cur, q1, _, q3, _⟩
  · rw [h0] at hj; cases hj
  · rw [q1] at hj
    injection hj with hj
    subst hj
    unfold Arr at hA
    rw [q3] at hA
    injection hA with hA
    injection hA with _ h4
    exact hne h4
theorem MFrame2.arr {B b t : Nat} {u v : Value} {cs : List Value} {w W : World} (h : MFrame2 B u v w W) (hA : Arr w b t cs) (h1 : ∀ g, u.ownBlock = some g → b ≠ g) (h2 : ∀ g, v.ownBlock = some g → b ≠ g) : Arr W b t cs := (h.2.2 b (arr9_lt hA) h1 h2).trans hA
theorem MFrame3.arr {B b t : Nat} {u v x : Value} {cs : List Value} {w W : World} (h : MFrame3 B u v x w W) (hA : Arr w b t cs) (h1 : ∀ g, u.ownBlock = some g → b ≠ g) (h2 : ∀ g, v.ownBlock = some g → b ≠ g) (h3 : ∀ g, x.ownBlock = some g → b ≠ g) : Arr W b t cs := (h.2.2 b (arr9_lt hA) h1 h2 h3).trans hA
/-- An answer's box, its rows. -/
def RoBox (b B : Nat) (W : World) (R : RoL) (p1 : Option Addr) (k1 : Nat) (p2 : Option Addr) (k2 : Nat) (p3 : Option Addr) (k3 : Nat) : Prop := Arr W b 37 (roC R p1 k1 p2 k2 p3 k3) ∧ RoOwn B W R p1 k1 p2 k2 p3 k3
theorem RoBox.on {b B : Nat} {W W2 : World} {R : RoL} {p1 : Option Addr} {k1 : Nat} {p2 : Option Addr} {k2 : Nat} {p3 : Option Addr} {k3 : Nat} (h : RoBox b B W R p1 k1 p2 k2 p3 k3) (hb : Below W.heap.size W W2) : RoBox b B W2 R p1 k1 p2 k2 p3 k3 := ⟨arr9_on h.1 hb, h.2.on hb⟩
theorem RoBox.new {B : Nat} {W : World} {R : RoL} {p1 : Option Addr} {k1 : Nat} {p2 : Option Addr} {k2 : Nat} {p3 : Option Addr} {k3 : Nat} (h : RoOwn B W R p1 k1 p2 k2 p3 k3) : RoBox W.heap.size B (W.alloc (.cells (roC R p1 k1 p2 k2 p3 k3).toArray 37)) R p1 k1 p2 k2 p3 k3 := ⟨Arr.fresh W _ _, h.on ((Below.refl _ _).alloc (Nat.le_refl _) _)⟩
/-- Its rows lie from B on and ahead of its box: rows that end ahead of B may be marked. -/
theorem RoBox.beside {b B C : Nat} {W W2 : World} {R : RoL} {p1 : Option Addr} {k1 : Nat} {p2 : Option Addr} {k2 : Nat} {p3 : Option Addr} {k3 : Nat} {u v : Value} (h : RoBox b B W R p1 k1 p2 k2 p3 k3) (hF : MFrame2 C u v W W2) (hb : B ≤ b) (hu : ∀ j, u.ownBlock = some j → j < B) (hv : ∀ j, v.ownBlock = some j → j < B) : RoBox b B W2 R p1 k1 p2 k2 p3 k3 :=
  ⟨hF.arr h.1 (fun g hg => by have := hu g hg; omega) (fun g hg => by have := hv g hg; omega),
   mown_frame2 hF h.2.1 (fun x y hx hy => by have := hu x hx; have := own_base h.2.1 y hy; omega) (fun x y hx hy => by have := hv x hx; have := own_base h.2.1 y hy; omega),
   mown_frame2 hF h.2.2.1 (fun x y hx hy => by have := hu x hx; have := own_base h.2.2.1 y hy; omega) (fun x y hx hy => by have := hv x hx; have := own_base h.2.2.1 y hy; omega),
   mown_frame2 hF h.2.2.2 (fun x y hx hy => by have := hu x hx; have := own_base h.2.2.2 y hy; omega) (fun x y hx hy => by have := hv x hx; have := own_base h.2.2.2 y hy; omega)⟩
/-- The same with its rows marked. -/
def RmBox (b B : Nat) (W : World) (R : RoL) (p1 : Option Addr) (k1 : Nat) (p2 : Option Addr) (k2 : Nat) (p3 : Option Addr) (k3 : Nat) : Prop := Arr W b 37 (roC R p1 k1 p2 k2 p3 k3) ∧ RoMkd B W R p1 k1 p2 k2 p3 k3
theorem RmBox.on {b B : Nat} {W W2 : World} {R : RoL} {p1 : Option Addr} {k1 : Nat} {p2 : Option Addr} {k2 : Nat} {p3 : Option Addr} {k3 : Nat} (h : RmBox b B W R p1 k1 p2 k2 p3 k3) (hb : Below W.heap.size W W2) : RmBox b B W2 R p1 k1 p2 k2 p3 k3 := ⟨arr9_on h.1 hb, h.2.on hb⟩
theorem RoBox.mark {b B C : Nat} {W W2 : World} {R : RoL} {p1 : Option Addr} {k1 : Nat} {p2 : Option Addr} {k2 : Nat} {p3 : Option Addr} {k3 : Nat} (h : RoBox b B W R p1 k1 p2 k2 p3 k3) (hM : RoMkd B W2 R p1 k1 p2 k2 p3 k3) (hF : MFrame3 C (.slice p1 R.l.length k1) (.slice p2 R.ks.length k2) (.slice p3 R.to.length k3) W W2) : RmBox b B W2 R p1 k1 p2 k2 p3 k3 :=
  ⟨hF.arr h.1 (own_ne10 h.2.1 h.1 (by decide)) (own_ne10 h.2.2.1 h.1 (by decide)) (own_ne10 h.2.2.2 h.1 (by decide)), hM⟩
/-- A mailbox's box, its rows. -/
def MxBox (b B : Nat) (W : World) (xs : List SeL) (ys : List MsL) (p1 : Option Addr) (n1 k1 : Nat) (p2 : Option Addr) (n2 k2 : Nat) : Prop := Arr W b 33 [.slice p1 n1 k1, .slice p2 n2 k2] ∧ MbIs B xs ys p1 n1 k1 p2 n2 k2 W
theorem MxBox.on {b B : Nat} {W W2 : World} {xs : List SeL} {ys : List MsL} {p1 : Option Addr} {n1 k1 : Nat} {p2 : Option Addr} {n2 k2 : Nat} (h : MxBox b B W xs ys p1 n1 k1 p2 n2 k2) (hb : Below W.heap.size W W2) : MxBox b B W2 xs ys p1 n1 k1 p2 n2 k2 := ⟨arr9_on h.1 hb, h.2.on hb⟩
theorem MxBox.new {B : Nat} {W : World} {xs : List SeL} {ys : List MsL} {p1 : Option Addr} {n1 k1 : Nat} {p2 : Option Addr} {n2 k2 : Nat} (h : MbIs B xs ys p1 n1 k1 p2 n2 k2 W) : MxBox W.heap.size B (W.alloc (.cells #[.slice p1 n1 k1, .slice p2 n2 k2] 33)) xs ys p1 n1 k1 p2 n2 k2 := ⟨Arr.fresh W _ [.slice p1 n1 k1, .slice p2 n2 k2], h.on ((Below.refl _ _).alloc (Nat.le_refl _) _)⟩
/-- The law's own box. -/
def LwM (w W : World) (a : Option Addr) (len cap : Nat) (b : Option Addr) (lem cam : Nat) : Prop := Arr W w.heap.size 25 [.slice a len cap, .slice b lem cam] ∧ Below w.heap.size w W
theorem LwM.on {w W W2 : World} {a : Option Addr} {len cap : Nat} {b : Option Addr} {lem cam : Nat} (h : LwM w W a len cap b lem cam) (hb : Below W.heap.size W W2) : LwM w W2 a len cap b lem cam := ⟨arr9_on h.1 hb, h.2.trans (hb.mono h.2.size)⟩
theorem LwM.low {w W W2 : World} {a : Option Addr} {len cap : Nat} {b : Option Addr} {lem cam C : Nat} (h : LwM w W a len cap b lem cam) (hb : Below C W W2) (hC : w.heap.size < C) : LwM w W2 a len cap b lem cam := ⟨(hb.block _ hC).trans h.1, h.2.trans (hb.mono (Nat.le_of_lt hC))⟩
/-- The law's two boxes. -/
def LwS (w W : World) (a : Option Addr) (len cap : Nat) (b : Option Addr) (lem cam : Nat) (s : MsL) : Prop := Arr W w.heap.size 25 [.slice a len cap, .slice b lem cam] ∧ Arr W (w.heap.size + 1) 27 (msC s) ∧ Below w.heap.size w W
theorem LwS.on {w W W2 : World} {a : Option Addr} {len cap : Nat} {b : Option Addr} {lem cam : Nat} {s : MsL} (h : LwS w W a len cap b lem cam s) (hb : Below W.heap.size W W2) : LwS w W2 a len cap b lem cam s := ⟨arr9_on h.1 hb, arr9_on h.2.1 hb, h.2.2.trans (hb.mono h.2.2.size)⟩
theorem LwS.low {w W W2 : World} {a : Option Addr} {len cap : Nat} {b : Option Addr} {lem cam C : Nat} {s : MsL} (h : LwS w W a len cap b lem cam s) (hb : Below C W W2) (hC : w.heap.size + 1 < C) : LwS w W2 a len cap b lem cam s := ⟨(hb.block _ (by omega)).trans h.1, (hb.block _ hC).trans h.2.1, h.2.2.trans (hb.mono (by omega))⟩
theorem lwS_start (w : World) (a : Option Addr) (len cap : Nat) (b : Option Addr) (lem cam : Nat) (s : MsL) : LwS w ((w.alloc (.cells #[.slice a len cap, .slice b lem cam] 25)).alloc (.cells #[.string s.k, .string s.t, .string s.f, .string s.o, .int .i64 s.n, .string s.b] 27)) a len cap b lem cam s := by
  have h2 := Arr.fresh (w.alloc (.cells #[.slice a len cap, .slice b lem cam] 25)) 27 (msC s)
  rw [World.size_alloc] at h2
  exact ⟨arr9_on (Arr.fresh w 25 [.slice a len cap, .slice b lem cam]) ((Below.refl _ _).alloc (Nat.le_refl _) _), h2, ((Below.refl _ _).alloc (Nat.le_refl _) _).alloc (by simp) _⟩
/-- Rows that lie below C. -/
def RoLow (C : Nat) (p1 p2 p3 : Option Addr) (R : RoL) (k1 k2 k3 : Nat) : Prop := (∀ j, (Value.slice p1 R.l.length k1).ownBlock = some j → j < C) ∧ (∀ j, (Value.slice p2 R.ks.length k2).ownBlock = some j → j < C) ∧ (∀ j, (Value.slice p3 R.to.length k3).ownBlock = some j → j < C)
theorem RoLow.mono {C D : Nat} {p1 p2 p3 : Option Addr} {R : RoL} {k1 k2 k3 : Nat} (h : RoLow C p1 p2 p3 R k1 k2 k3) (hC : C ≤ D) : RoLow D p1 p2 p3 R k1 k2 k3 := ⟨fun j hj => Nat.lt_of_lt_of_le (h.1 j hj) hC, fun j hj => Nat.lt_of_lt_of_le (h.2.1 j hj) hC, fun j hj => Nat.lt_of_lt_of_le (h.2.2 j hj) hC⟩
theorem own_low10 {α : Type} {enc : α → List Value} {W W2 : World} {B C e size : Nat} {v : Value} {xs : List α} (h : OwnC enc W B e size v xs) (hb : Below C W W2) (hl : ∀ j, v.ownBlock = some j → j < C) : OwnC enc W2 B e size v xs := by
  refine ⟨h.1, ?_⟩
  rcases h.2 with h0 | ⟨g, c, cur, q1, q2, q3, q4⟩
  · exact .inl h0
  · exact .inr ⟨g, c, cur, q1, q2, (hb.block g (hl g (by rw [q1]; rfl))).trans q3, q4⟩
theorem RoBox.low {b B C : Nat} {W W2 : World} {R : RoL} {p1 : Option Addr} {k1 : Nat} {p2 : Option Addr} {k2 : Nat} {p3 : Option Addr} {k3 : Nat} (h : RoBox b B W R p1 k1 p2 k2 p3 k3) (hb : Below C W W2) (hC : b < C) (hl : RoLow C p1 p2 p3 R k1 k2 k3) : RoBox b B W2 R p1 k1 p2 k2 p3 k3 :=
  ⟨(hb.block b hC).trans h.1, own_low10 h.2.1 hb hl.1, own_low10 h.2.2.1 hb hl.2.1, own_low10 h.2.2.2 hb hl.2.2⟩
theorem ms_le {s : MsL} {z z2 : Int} (hz : z ≤ 1048576) (h0 : 0 ≤ z2) (h : z2 = z - s.k.size - s.t.size - s.f.size - s.o.size - s.b.size) : s.le 1048576 := by unfold MsL.le; omega
end Go.Proofs.YtpjmcpfmnlfmdaaGreat

namespace Go.Proofs.YtpjmcpfmnlfmdaaGreat
set_option linter.unusedSimpArgs false
set_option linter.unusedVariables false
open Go.RowKit

/-- What stands all along: the box of the argument. -/
def ScS (w : World) (k t f o : ByteArray) (n : Int) (b : ByteArray) (W : World) : Prop := (W.cell? ⟨w.heap.size, 0, none⟩ = some (.string k) ∧ W.cell? ⟨w.heap.size, 1, none⟩ = some (.string t) ∧ W.cell? ⟨w.heap.size, 2, none⟩ = some (.string f) ∧ W.cell? ⟨w.heap.size, 3, none⟩ = some (.string o) ∧ W.cell? ⟨w.heap.size, 4, none⟩ = some (.int .i64 n) ∧ W.cell? ⟨w.heap.size, 5, none⟩ = some (.string b)) ∧ (Below w.heap.size w W ∧ Arr W w.heap.size 35 [.string k, .string t, .string f, .string o, .int .i64 n, .string b] ∧ w.heap.size + 2 ≤ W.heap.size)
theorem scS {w : World} {k t f o : ByteArray} {n : Int} {b : ByteArray} {W : World} (hb : Below w.heap.size w W) (h1 : Arr W w.heap.size 35 [.string k, .string t, .string f, .string o, .int .i64 n, .string b]) (h3 : w.heap.size + 2 ≤ W.heap.size) : ScS w k t f o n b W := ⟨(arr_six0 h1).1, hb, h1, h3⟩
theorem scS_on {w : World} {k t f o : ByteArray} {n : Int} {b : ByteArray} {W W' : World} (h : ScS w k t f o n b W) (hb : Below W.heap.size W W') : ScS w k t f o n b W' := scS (h.2.1.trans (hb.mono h.2.1.size)) (arr_below h.2.2.1 hb) (Nat.le_trans h.2.2.2 hb.size)
theorem scS_put {w : World} {k t f o : ByteArray} {n : Int} {b : ByteArray} {W : World} (h : ScS w k t f o n b W) (x0 x1 x2 x3 x4 x5 : Value) : ScS w k t f o n b (put6 W (w.heap.size + 1) x0 x1 x2 x3 x4 x5) :=
  scS (below_put6 h.2.1 (Nat.le_succ _) _ _ _ _ _ _) (arr_far6 h.2.2.1 (by omega) _ _ _ _ _ _) (Nat.le_trans h.2.2.2 (below_put6 (Below.refl _ W) (Nat.zero_le (w.heap.size + 1)) x0 x1 x2 x3 x4 x5).size)
/-- What each operation has left. -/
structure ScA (w : World) (k t f o : ByteArray) (n : Int) (b : ByteArray) (b1 c1 b2 c2 b3 c3 b4 c4 b5 c5 bu : Bool) (v5 v6 v9 v10 v13 v14 v17 v18 v23 v24 v25 : Value) (W : World) : Prop where
  p1 : b1 = true → OneStr W v5 k
  q1 : c1 = true → v6 = .string k
  p2 : b2 = true → OneStr W v9 t
  q2 : c2 = true → v10 = .string t
  p3 : b3 = true → OneStr W v13 f
  q3 : c3 = true → v14 = .string f
  p4 : b4 = true → OneStr W v17 o
  q4 : c4 = true → v18 = .string o
  p5 : b5 = true → OneStr W v23 b
  q5 : c5 = true → v24 = .string b
  pu : bu = true → v25 = .agg #[.string k, .string t, .string f, .string o, .int .i64 n, .string b]
  pr : Arr W (w.heap.size + 1) 35 [.string ⟨#[]⟩, .string ⟨#[]⟩, .string ⟨#[]⟩, .string ⟨#[]⟩, .int .i64 0, .string ⟨#[]⟩]
theorem ScA.on {w : World} {k t f o : ByteArray} {n : Int} {b : ByteArray} {b1 c1 b2 c2 b3 c3 b4 c4 b5 c5 bu : Bool} {v5 v6 v9 v10 v13 v14 v17 v18 v23 v24 v25 : Value} {W W' : World} (h : ScA w k t f o n b b1 c1 b2 c2 b3 c3 b4 c4 b5 c5 bu v5 v6 v9 v10 v13 v14 v17 v18 v23 v24 v25 W) (hb : Below W.heap.size W W') : ScA w k t f o n b b1 c1 b2 c2 b3 c3 b4 c4 b5 c5 bu v5 v6 v9 v10 v13 v14 v17 v18 v23 v24 v25 W' :=
  { h with
    p1 := fun e => (h.p1 e).on hb
    p2 := fun e => (h.p2 e).on hb
    p3 := fun e => (h.p3 e).on hb
    p4 := fun e => (h.p4 e).on hb
    p5 := fun e => (h.p5 e).on hb
    pr := arr_below h.pr hb }
/-- The invariant of the region. -/
def ScInv (w : World) (k t f o : ByteArray) (n : Int) (b : ByteArray) (listed : Array Bool) (a : Act) (W : World) : Prop :=
  ∃ (b1 c1 b2 c2 b3 c3 b4 c4 b5 c5 bu st : Bool) (v5 v6 v9 v10 v13 v14 v17 v18 v23 v24 v25 : Value), listed = #[true, true, b1, c1, true, true, b2, c2, true, true, b3, c3, true, true, b4, c4, true, true, true, true, b5, c5, bu, st] ∧
    a = { tmps := #[.agg #[.string k, .string t, .string f, .string o, .int .i64 n, .string b], .pointer (some ⟨w.heap.size, 0, none⟩), .pointer (some ⟨w.heap.size + 1, 0, none⟩), .pointer (some ⟨w.heap.size, 0, none⟩), .string k, v5, v6, .pointer (some ⟨w.heap.size, 1, none⟩), .string t, v9, v10, .pointer (some ⟨w.heap.size, 2, none⟩), .string f, v13, v14, .pointer (some ⟨w.heap.size, 3, none⟩), .string o, v17, v18, .pointer (some ⟨w.heap.size, 4, none⟩), .int .i64 n, .pointer (some ⟨w.heap.size, 5, none⟩), .string b, v23, v24, v25], defers := [] } ∧ ScS w k t f o n b W ∧ (st = false → ScA w k t f o n b b1 c1 b2 c2 b3 c3 b4 c4 b5 c5 bu v5 v6 v9 v10 v13 v14 v17 v18 v23 v24 v25 W) ∧
    (st = true → b1 = true ∧ c1 = true ∧ b2 = true ∧ c2 = true ∧ b3 = true ∧ c3 = true ∧ b4 = true ∧ c4 = true ∧ b5 = true ∧ c5 = true ∧ bu = true) ∧ (st = true → Arr W (w.heap.size + 1) 35 [.string k, .string t, .string f, .string o, .int .i64 n, .string b])
set_option maxRecDepth 100000 in
set_option maxHeartbeats 4000000 in
theorem impl_stcopy (k t f o : ByteArray) (n : Int) (b : ByteArray) (w : World) (hk : k.size ≤ 2000000) (ht : t.size ≤ 2000000) (hf : f.size ≤ 2000000) (ho : o.size ≤ 2000000) (hbz : b.size ≤ 2000000) :
    Calls Tryz.prog 56 #[.agg #[.string k, .string t, .string f, .string o, .int .i64 n, .string b]] w fun e w' => e = .returned (.agg #[.string k, .string t, .string f, .string o, .int .i64 n, .string b]) ∧ Below w.heap.size w w' := by
  go_enter Tryz.func56, Tryz.ntmps56
  go_wp2
  have hR0 := Arr.fresh (w.alloc (.cells #[.string k, .string t, .string f, .string o, .int .i64 n, .string b] 35)) 35 [.string ⟨#[]⟩, .string ⟨#[]⟩, .string ⟨#[]⟩, .string ⟨#[]⟩, .int .i64 0, .string ⟨#[]⟩]
  rw [World.size_alloc] at hR0
  have hS0 : ScS w k t f o n b ((w.alloc (.cells #[.string k, .string t, .string f, .string o, .int .i64 n, .string b] 35)).alloc (.cells #[.string ⟨#[]⟩, .string ⟨#[]⟩, .string ⟨#[]⟩, .string ⟨#[]⟩, .int .i64 0, .string ⟨#[]⟩] 35)).drew :=
    scS (((Below.refl w.heap.size w).alloc (Nat.le_refl _) _).alloc (by simp) _).drew (arr_alloc (Arr.fresh w _ _) _) (by simp [size_drew])
  have hR1 := arr_below hR0 (Below.refl _ _).drew
  refine wp_region_held_drew (S := (fun W => ScS w k t f o n b W)) (by kernel_rfl) hS0 (fun hHeld => ?_)
  clear hS0 hR0
  generalize ((w.alloc (.cells #[.string k, .string t, .string f, .string o, .int .i64 n, .string b] 35)).alloc (.cells #[.string ⟨#[]⟩, .string ⟨#[]⟩, .string ⟨#[]⟩, .string ⟨#[]⟩, .int .i64 0, .string ⟨#[]⟩] 35)).drew = V at hHeld hR1 ⊢
  refine takeH (i := 0) (k := 3) (v := .pointer (some ⟨w.heap.size, 0, none⟩)) rfl (by rfl) (by kernel_rfl) (by kernel_rfl) (by kernel_rfl) (fun _ _ _ h => h) (by rfl) ?_ hHeld ?_
  · intro w1 hSw; obtain ⟨⟨p0, p1, p2, p3, p4, p5⟩, _⟩ := hSw; go_simp
  (try simp only [Act.put, List.setIfInBounds_toArray, List.set_cons_zero, List.set_cons_succ])
  refine takeH (i := 1) (k := 4) (v := .string k) rfl (by rfl) (by kernel_rfl) (by kernel_rfl) (by kernel_rfl) (fun _ _ _ h => h) (by rfl) ?_ hHeld ?_
  · intro w1 hSw; obtain ⟨⟨p0, p1, p2, p3, p4, p5⟩, _⟩ := hSw; go_simp
  (try simp only [Act.put, List.setIfInBounds_toArray, List.set_cons_zero, List.set_cons_succ])
  refine takeH (i := 4) (k := 7) (v := .pointer (some ⟨w.heap.size, 1, none⟩)) rfl (by rfl) (by kernel_rfl) (by kernel_rfl) (by kernel_rfl) (fun _ _ _ h => h) (by rfl) ?_ hHeld ?_
  · intro w1 hSw; obtain ⟨⟨p0, p1, p2, p3, p4, p5⟩, _⟩ := hSw; go_simp
  (try simp only [Act.put, List.setIfInBounds_toArray, List.set_cons_zero, List.set_cons_succ])
  refine takeH (i := 5) (k := 8) (v := .string t) rfl (by rfl) (by kernel_rfl) (by kernel_rfl) (by kernel_rfl) (fun _ _ _ h => h) (by rfl) ?_ hHeld ?_
  · intro w1 hSw; obtain ⟨⟨p0, p1, p2, p3, p4, p5⟩, _⟩ := hSw; go_simp
  (try simp only [Act.put, List.setIfInBounds_toArray, List.set_cons_zero, List.set_cons_succ])
  refine takeH (i := 8) (k := 11) (v := .pointer (some ⟨w.heap.size, 2, none⟩)) rfl (by rfl) (by kernel_rfl) (by kernel_rfl) (by kernel_rfl) (fun _ _ _ h => h) (by rfl) ?_ hHeld ?_
  · intro w1 hSw; obtain ⟨⟨p0, p1, p2, p3, p4, p5⟩, _⟩ := hSw; go_simp
  (try simp only [Act.put, List.setIfInBounds_toArray, List.set_cons_zero, List.set_cons_succ])
  refine takeH (i := 9) (k := 12) (v := .string f) rfl (by rfl) (by kernel_rfl) (by kernel_rfl) (by kernel_rfl) (fun _ _ _ h => h) (by rfl) ?_ hHeld ?_
  · intro w1 hSw; obtain ⟨⟨p0, p1, p2, p3, p4, p5⟩, _⟩ := hSw; go_simp
  (try simp only [Act.put, List.setIfInBounds_toArray, List.set_cons_zero, List.set_cons_succ])
  refine takeH (i := 12) (k := 15) (v := .pointer (some ⟨w.heap.size, 3, none⟩)) rfl (by rfl) (by kernel_rfl) (by kernel_rfl) (by kernel_rfl) (fun _ _ _ h => h) (by rfl) ?_ hHeld ?_
  · intro w1 hSw; obtain ⟨⟨p0, p1, p2, p3, p4, p5⟩, _⟩ := hSw; go_simp
  (try simp only [Act.put, List.setIfInBounds_toArray, List.set_cons_zero, List.set_cons_succ])
  refine takeH (i := 13) (k := 16) (v := .string o) rfl (by rfl) (by kernel_rfl) (by kernel_rfl) (by kernel_rfl) (fun _ _ _ h => h) (by rfl) ?_ hHeld ?_
  · intro w1 hSw; obtain ⟨⟨p0, p1, p2, p3, p4, p5⟩, _⟩ := hSw; go_simp
  (try simp only [Act.put, List.setIfInBounds_toArray, List.set_cons_zero, List.set_cons_succ])
  refine takeH (i := 16) (k := 19) (v := .pointer (some ⟨w.heap.size, 4, none⟩)) rfl (by rfl) (by kernel_rfl) (by kernel_rfl) (by kernel_rfl) (fun _ _ _ h => h) (by rfl) ?_ hHeld ?_
  · intro w1 hSw; obtain ⟨⟨p0, p1, p2, p3, p4, p5⟩, _⟩ := hSw; go_simp
  (try simp only [Act.put, List.setIfInBounds_toArray, List.set_cons_zero, List.set_cons_succ])
  refine takeH (i := 17) (k := 20) (v := .int .i64 n) rfl (by rfl) (by kernel_rfl) (by kernel_rfl) (by kernel_rfl) (fun _ _ _ h => h) (by rfl) ?_ hHeld ?_
  · intro w1 hSw; obtain ⟨⟨p0, p1, p2, p3, p4, p5⟩, _⟩ := hSw; go_simp
  (try simp only [Act.put, List.setIfInBounds_toArray, List.set_cons_zero, List.set_cons_succ])
  refine takeH (i := 18) (k := 21) (v := .pointer (some ⟨w.heap.size, 5, none⟩)) rfl (by rfl) (by kernel_rfl) (by kernel_rfl) (by kernel_rfl) (fun _ _ _ h => h) (by rfl) ?_ hHeld ?_
  · intro w1 hSw; obtain ⟨⟨p0, p1, p2, p3, p4, p5⟩, _⟩ := hSw; go_simp
  (try simp only [Act.put, List.setIfInBounds_toArray, List.set_cons_zero, List.set_cons_succ])
  refine takeH (i := 19) (k := 22) (v := .string b) rfl (by rfl) (by kernel_rfl) (by kernel_rfl) (by kernel_rfl) (fun _ _ _ h => h) (by rfl) ?_ hHeld ?_
  · intro w1 hSw; obtain ⟨⟨p0, p1, p2, p3, p4, p5⟩, _⟩ := hSw; go_simp
  (try simp only [Act.put, List.setIfInBounds_toArray, List.set_cons_zero, List.set_cons_succ])
  refine any_order (ScInv w k t f o n b) ?step ?done _ _ _ _ (of_decide_eq_true (by kernel_rfl)) ?start
  case start => exact ⟨false, false, false, false, false, false, false, false, false, false, false, false, _, _, _, _, _, _, _, _, _, _, _, rfl, rfl, hHeld, fun _ => by constructor <;> first | exact hR1 | (intro h; cases h), fun h => (by cases h), fun h => by cases h⟩
  case step =>
    rintro listed a W i ⟨b1, c1, b2, c2, b3, c3, b4, c4, b5, c5, bu, st, v5, v6, v9, v10, v13, v14, v17, v18, v23, v24, v25, rfl, rfl, hS, hA, hT, hE⟩ hi
    obtain ⟨hlt, hun, hdep⟩ := ready_spec hi
    clear hi
    have hlt' : i < 24 := hlt
    clear hlt
    have h23 : i = 0 ∨ i = 1 ∨ i = 2 ∨ i = 3 ∨ i = 4 ∨ i = 5 ∨ i = 6 ∨ i = 7 ∨ i = 8 ∨ i = 9 ∨ i = 10 ∨ i = 11 ∨ i = 12 ∨ i = 13 ∨ i = 14 ∨ i = 15 ∨ i = 16 ∨ i = 17 ∨ i = 18 ∨ i = 19 ∨ i = 20 ∨ i = 21 ∨ i = 22 ∨ i = 23 := by omega
    rcases h23 with rfl | rfl | rfl | rfl | rfl | rfl | rfl | rfl | rfl | rfl | rfl | rfl | rfl | rfl | rfl | rfl | rfl | rfl | rfl | rfl | rfl | rfl | rfl | rfl
    · cases (show true = false from hun)
    · cases (show true = false from hun)
    · have hun2 : b1 = false := hun
      subst hun2
      obtain rfl : st = false := by
        cases st
        · rfl
        · have := hT rfl; simp at this
      have hA := hA rfl
      clear hdep hun hE hT
      refine wpOp_step rfl (fun K hK => ?_)
      rw [if_pos (by rfl)]
      go_simp
      have hb : Below W.heap.size W (W.alloc (.cells #[.string k] 9)) := (Below.refl _ W).alloc (Nat.le_refl _) _
      exact hK _ _ ⟨scS_on hS hb, true, c1, b2, c2, b3, c3, b4, c4, b5, c5, bu, false, _, v6, v9, v10, v13, v14, v17, v18, v23, v24, v25, rfl, rfl, scS_on hS hb, fun _ => { hA.on hb with p1 := fun _ => oneStr_new W k _ }, fun e => (by cases e), fun e => by cases e⟩
    · have hun2 : c1 = false := hun
      subst hun2
      obtain rfl : st = false := by
        cases st
        · rfl
        · have := hT rfl; simp at this
      have hA := hA rfl
      obtain rfl : b1 = true := by cases b1 with | false => exact absurd hdep (by simp [Region.binds]) | true => rfl
      have hj := (hA.p1 rfl).joined (by omega)
      clear hdep hun hE hT
      refine wpOp_step rfl (fun K hK => ?_)
      rw [if_pos (by rfl)]
      go_simp
      go_fit hj
      rintro e w1 ⟨rfl, hb⟩
      clear hj
      exact hK _ _ ⟨scS_on hS hb, true, true, b2, c2, b3, c3, b4, c4, b5, c5, bu, false, v5, _, v9, v10, v13, v14, v17, v18, v23, v24, v25, rfl, rfl, scS_on hS hb, fun _ => { hA.on hb with q1 := fun _ => rfl }, fun e => (by cases e), fun e => by cases e⟩
    · cases (show true = false from hun)
    · cases (show true = false from hun)
    · have hun2 : b2 = false := hun
      subst hun2
      obtain rfl : st = false := by
        cases st
        · rfl
        · have := hT rfl; simp at this
      have hA := hA rfl
      clear hdep hun hE hT
      refine wpOp_step rfl (fun K hK => ?_)
      rw [if_pos (by rfl)]
      go_simp
      have hb : Below W.heap.size W (W.alloc (.cells #[.string t] 9)) := (Below.refl _ W).alloc (Nat.le_refl _) _
      exact hK _ _ ⟨scS_on hS hb, b1, c1, true, c2, b3, c3, b4, c4, b5, c5, bu, false, v5, v6, _, v10, v13, v14, v17, v18, v23, v24, v25, rfl, rfl, scS_on hS hb, fun _ => { hA.on hb with p2 := fun _ => oneStr_new W t _ }, fun e => (by cases e), fun e => by cases e⟩
    · have hun2 : c2 = false := hun
      subst hun2
      obtain rfl : st = false := by
        cases st
        · rfl
        · have := hT rfl; simp at this
      have hA := hA rfl
      obtain rfl : b2 = true := by cases b2 with | false => exact absurd hdep (by simp [Region.binds]) | true => rfl
      have hj := (hA.p2 rfl).joined (by omega)
      clear hdep hun hE hT
      refine wpOp_step rfl (fun K hK => ?_)
      rw [if_pos (by rfl)]
      go_simp
      go_fit hj
      rintro e w1 ⟨rfl, hb⟩
      clear hj
      exact hK _ _ ⟨scS_on hS hb, b1, c1, true, true, b3, c3, b4, c4, b5, c5, bu, false, v5, v6, v9, _, v13, v14, v17, v18, v23, v24, v25, rfl, rfl, scS_on hS hb, fun _ => { hA.on hb with q2 := fun _ => rfl }, fun e => (by cases e), fun e => by cases e⟩
    · cases (show true = false from hun)
    · cases (show true = false from hun)
    · have hun2 : b3 = false := hun
      subst hun2
      obtain rfl : st = false := by
        cases st
        · rfl
        · have := hT rfl; simp at this
      have hA := hA rfl
      clear hdep hun hE hT
      refine wpOp_step rfl (fun K hK => ?_)
      rw [if_pos (by rfl)]
      go_simp
      have hb : Below W.heap.size W (W.alloc (.cells #[.string f] 9)) := (Below.refl _ W).alloc (Nat.le_refl _) _
      exact hK _ _ ⟨scS_on hS hb, b1, c1, b2, c2, true, c3, b4, c4, b5, c5, bu, false, v5, v6, v9, v10, _, v14, v17, v18, v23, v24, v25, rfl, rfl, scS_on hS hb, fun _ => { hA.on hb with p3 := fun _ => oneStr_new W f _ }, fun e => (by cases e), fun e => by cases e⟩
    · have hun2 : c3 = false := hun
      subst hun2
      obtain rfl : st = false := by
        cases st
        · rfl
        · have := hT rfl; simp at this
      have hA := hA rfl
      obtain rfl : b3 = true := by cases b3 with | false => exact absurd hdep (by simp [Region.binds]) | true => rfl
      have hj := (hA.p3 rfl).joined (by omega)
      clear hdep hun hE hT
      refine wpOp_step rfl (fun K hK => ?_)
      rw [if_pos (by rfl)]
      go_simp
      go_fit hj
      rintro e w1 ⟨rfl, hb⟩
      clear hj
      exact hK _ _ ⟨scS_on hS hb, b1, c1, b2, c2, true, true, b4, c4, b5, c5, bu, false, v5, v6, v9, v10, v13, _, v17, v18, v23, v24, v25, rfl, rfl, scS_on hS hb, fun _ => { hA.on hb with q3 := fun _ => rfl }, fun e => (by cases e), fun e => by cases e⟩
    · cases (show true = false from hun)
    · cases (show true = false from hun)
    · have hun2 : b4 = false := hun
      subst hun2
      obtain rfl : st = false := by
        cases st
        · rfl
        · have := hT rfl; simp at this
      have hA := hA rfl
      clear hdep hun hE hT
      refine wpOp_step rfl (fun K hK => ?_)
      rw [if_pos (by rfl)]
      go_simp
      have hb : Below W.heap.size W (W.alloc (.cells #[.string o] 9)) := (Below.refl _ W).alloc (Nat.le_refl _) _
      exact hK _ _ ⟨scS_on hS hb, b1, c1, b2, c2, b3, c3, true, c4, b5, c5, bu, false, v5, v6, v9, v10, v13, v14, _, v18, v23, v24, v25, rfl, rfl, scS_on hS hb, fun _ => { hA.on hb with p4 := fun _ => oneStr_new W o _ }, fun e => (by cases e), fun e => by cases e⟩
    · have hun2 : c4 = false := hun
      subst hun2
      obtain rfl : st = false := by
        cases st
        · rfl
        · have := hT rfl; simp at this
      have hA := hA rfl
      obtain rfl : b4 = true := by cases b4 with | false => exact absurd hdep (by simp [Region.binds]) | true => rfl
      have hj := (hA.p4 rfl).joined (by omega)
      clear hdep hun hE hT
      refine wpOp_step rfl (fun K hK => ?_)
      rw [if_pos (by rfl)]
      go_simp
      go_fit hj
      rintro e w1 ⟨rfl, hb⟩
      clear hj
      exact hK _ _ ⟨scS_on hS hb, b1, c1, b2, c2, b3, c3, true, true, b5, c5, bu, false, v5, v6, v9, v10, v13, v14, v17, _, v23, v24, v25, rfl, rfl, scS_on hS hb, fun _ => { hA.on hb with q4 := fun _ => rfl }, fun e => (by cases e), fun e => by cases e⟩
    · cases (show true = false from hun)
    · cases (show true = false from hun)
    · cases (show true = false from hun)
    · cases (show true = false from hun)
    · have hun2 : b5 = false := hun
      subst hun2
      obtain rfl : st = false := by
        cases st
        · rfl
        · have := hT rfl; simp at this
      have hA := hA rfl
      clear hdep hun hE hT
      refine wpOp_step rfl (fun K hK => ?_)
      rw [if_pos (by rfl)]
      go_simp
      have hb : Below W.heap.size W (W.alloc (.cells #[.string b] 9)) := (Below.refl _ W).alloc (Nat.le_refl _) _
      exact hK _ _ ⟨scS_on hS hb, b1, c1, b2, c2, b3, c3, b4, c4, true, c5, bu, false, v5, v6, v9, v10, v13, v14, v17, v18, _, v24, v25, rfl, rfl, scS_on hS hb, fun _ => { hA.on hb with p5 := fun _ => oneStr_new W b _ }, fun e => (by cases e), fun e => by cases e⟩
    · have hun2 : c5 = false := hun
      subst hun2
      obtain rfl : st = false := by
        cases st
        · rfl
        · have := hT rfl; simp at this
      have hA := hA rfl
      obtain rfl : b5 = true := by cases b5 with | false => exact absurd hdep (by simp [Region.binds]) | true => rfl
      have hj := (hA.p5 rfl).joined (by omega)
      clear hdep hun hE hT
      refine wpOp_step rfl (fun K hK => ?_)
      rw [if_pos (by rfl)]
      go_simp
      go_fit hj
      rintro e w1 ⟨rfl, hb⟩
      clear hj
      exact hK _ _ ⟨scS_on hS hb, b1, c1, b2, c2, b3, c3, b4, c4, true, true, bu, false, v5, v6, v9, v10, v13, v14, v17, v18, v23, _, v25, rfl, rfl, scS_on hS hb, fun _ => { hA.on hb with q5 := fun _ => rfl }, fun e => (by cases e), fun e => by cases e⟩
    · have hun2 : bu = false := hun
      subst hun2
      obtain rfl : st = false := by
        cases st
        · rfl
        · have := hT rfl; simp at this
      have hA := hA rfl
      obtain rfl : c1 = true := by cases c1 with | false => exact absurd hdep (by simp [Region.binds]) | true => rfl
      obtain rfl : c2 = true := by cases c2 with | false => exact absurd hdep (by simp [Region.binds]) | true => rfl
      obtain rfl : c3 = true := by cases c3 with | false => exact absurd hdep (by simp [Region.binds]) | true => rfl
      obtain rfl : c4 = true := by cases c4 with | false => exact absurd hdep (by simp [Region.binds]) | true => rfl
      obtain rfl : c5 = true := by cases c5 with | false => exact absurd hdep (by simp [Region.binds]) | true => rfl
      obtain rfl := hA.q1 rfl
      obtain rfl := hA.q2 rfl
      obtain rfl := hA.q3 rfl
      obtain rfl := hA.q4 rfl
      obtain rfl := hA.q5 rfl
      clear hdep hun hE hT
      refine wpOp_step rfl (fun K hK => ?_)
      rw [if_pos (by rfl)]
      go_simp
      exact hK _ _ ⟨hS, b1, true, b2, true, b3, true, b4, true, b5, true, true, false, v5, _, v9, _, v13, _, v17, _, v23, _, _, rfl, rfl, hS, fun _ => { hA with pu := fun _ => rfl }, fun e => (by cases e), fun e => by cases e⟩
    · have hun2 : st = false := hun
      subst hun2
      have hA := hA rfl
      obtain rfl : b1 = true := by cases b1 with | false => exact absurd hdep (by simp [Region.binds]) | true => rfl
      obtain rfl : c1 = true := by cases c1 with | false => exact absurd hdep (by simp [Region.binds]) | true => rfl
      obtain rfl : b2 = true := by cases b2 with | false => exact absurd hdep (by simp [Region.binds]) | true => rfl
      obtain rfl : c2 = true := by cases c2 with | false => exact absurd hdep (by simp [Region.binds]) | true => rfl
      obtain rfl : b3 = true := by cases b3 with | false => exact absurd hdep (by simp [Region.binds]) | true => rfl
      obtain rfl : c3 = true := by cases c3 with | false => exact absurd hdep (by simp [Region.binds]) | true => rfl
      obtain rfl : b4 = true := by cases b4 with | false => exact absurd hdep (by simp [Region.binds]) | true => rfl
      obtain rfl : c4 = true := by cases c4 with | false => exact absurd hdep (by simp [Region.binds]) | true => rfl
      obtain rfl : b5 = true := by cases b5 with | false => exact absurd hdep (by simp [Region.binds]) | true => rfl
      obtain rfl : c5 = true := by cases c5 with | false => exact absurd hdep (by simp [Region.binds]) | true => rfl
      obtain rfl : bu = true := by cases bu with | false => exact absurd hdep (by simp [Region.binds]) | true => rfl
      obtain rfl := hA.pu rfl
      obtain ⟨⟨c0, c1, c2, c3, c4, c5⟩, f0, f1, f2, f3, f4, f5⟩ := arr_six0 hA.pr
      have HG := Lib.hid hA.pr
      have HS := Lib.hid hS
      clear hA hS
      clear hdep hun hE hT
      refine wpOp_step rfl (fun K hK => ?_)
      rw [if_pos (by rfl)]
      go_simp
      exact hK _ _ ⟨scS_put HS.out _ _ _ _ _ _, true, true, true, true, true, true, true, true, true, true, true, true, v5, v6, v9, v10, v13, v14, v17, v18, v23, v24, _, rfl, rfl, scS_put HS.out _ _ _ _ _ _, fun e => (by cases e), fun _ => ⟨rfl, rfl, rfl, rfl, rfl, rfl, rfl, rfl, rfl, rfl, rfl⟩, fun _ => arr_put6 HG.out _ _ _ _ _ _⟩
  case done =>
    rintro listed a W ⟨b1, c1, b2, c2, b3, c3, b4, c4, b5, c5, bu, st, v5, v6, v9, v10, v13, v14, v17, v18, v23, v24, v25, rfl, rfl, hS, hA, hT, hE⟩ hr
    obtain rfl : b1 = true := ready_nil hr 2 (show (2 : Nat) < 24 by decide) (by simp [Region.binds])
    obtain rfl : c1 = true := ready_nil hr 3 (show (3 : Nat) < 24 by decide) (by simp [Region.binds])
    obtain rfl : b2 = true := ready_nil hr 6 (show (6 : Nat) < 24 by decide) (by simp [Region.binds])
    obtain rfl : c2 = true := ready_nil hr 7 (show (7 : Nat) < 24 by decide) (by simp [Region.binds])
    obtain rfl : b3 = true := ready_nil hr 10 (show (10 : Nat) < 24 by decide) (by simp [Region.binds])
    obtain rfl : c3 = true := ready_nil hr 11 (show (11 : Nat) < 24 by decide) (by simp [Region.binds])
    obtain rfl : b4 = true := ready_nil hr 14 (show (14 : Nat) < 24 by decide) (by simp [Region.binds])
    obtain rfl : c4 = true := ready_nil hr 15 (show (15 : Nat) < 24 by decide) (by simp [Region.binds])
    obtain rfl : b5 = true := ready_nil hr 20 (show (20 : Nat) < 24 by decide) (by simp [Region.binds])
    obtain rfl : c5 = true := ready_nil hr 21 (show (21 : Nat) < 24 by decide) (by simp [Region.binds])
    obtain rfl : bu = true := ready_nil hr 22 (show (22 : Nat) < 24 by decide) (by simp [Region.binds])
    obtain rfl : st = true := ready_nil hr 23 (show (23 : Nat) < 24 by decide) (by simp [Region.binds])
    have hG := hE rfl
    clear hA hT hE hr
    obtain ⟨_, hB, hBox, hz⟩ := hS
    (try dsimp only)
    (try go_wp2)
    exact bodyPost_ret (v := .agg #[.string k, .string t, .string f, .string o, .int .i64 n, .string b]) (results_cell_row (P := Tryz.prog) Tryz.results56 _ _ (w.heap.size + 1) 35 _ (0, 0) _ rfl hG Tryz.underlying35 rfl (by kernel_rfl)) rfl ⟨rfl, hB⟩
end Go.Proofs.YtpjmcpfmnlfmdaaGreat

namespace Go.Proofs.YtpjmcpfmnlfmdaaGreat
set_option linter.unusedSimpArgs false
set_option linter.unusedVariables false
open Go.RowKit Go.Joins

/-- append(v, y) within the capacity. -/
theorem app_fitM (w : World) {ops : Array Oper} {rest : List Oper} {o : Oper} {a : Act} {Q : Exit → Act → World → Prop} (hgd : o.guard = none) (s x : Operand)
    (ho : o.op = Op.call { callee := Callee.builtin Builtin.append, args := #[s, x], argTypes := #[31, 31] })
    (B g k cap : Nat) (xs : List MsL) (hs : a.eval s = .slice (some ⟨g, 0, none⟩) k cap) (hown : OwnC msC w B 35 6 (.slice (some ⟨g, 0, none⟩) k cap) xs) (hk : xs.length = k) (b : Nat) (y : MsL) (hx : a.eval x = .slice (some ⟨b, 0, none⟩) 1 1) (hA : Arr w b 35 (msC y)) (hfit : k + 1 ≤ cap)
    (h : ∀ w', OwnC msC w' B 35 6 (.slice (some ⟨g, 0, none⟩) (k + 1) cap) (xs ++ [y]) → w.grownBy w' (some g) → wpList Tryz.prog ops Q rest (a.put o.dst (.slice (some ⟨g, 0, none⟩) (k + 1) cap)) w') : wpList Tryz.prog ops Q (o :: rest) a w := by
  obtain ⟨i0, hi, hz0, hz1, hz2⟩ := info_parts info_ms
  subst hk
  refine wpList_append_fits w hgd s x 31 ho B 35 i0 6 Tryz.underlying31 hi hz1 g xs.length cap (xs.flatMap msC) hs hown ⟨b, 0, none⟩ 1 1 (msC y) hx (by rw [msC_len]) (fun j u hj => ?_) (msC_one y) hfit (fun w' h1 h2 => h w' ?_ h2)
  · rw [show (⟨b, 0, none⟩ : Addr).add j = ⟨b, j, none⟩ by unfold Addr.add; split <;> simp_all, hA.cell]
    exact hj
  · unfold OwnC
    rw [List.length_append, List.flatMap_append]
    simpa using h1
set_option maxRecDepth 100000 in
set_option maxHeartbeats 2000000 in
theorem impl_mbcopy (xs : List SeL) (ys : List MsL) (p1 p2 : Option Addr) (n1 n2 c1 c2 : Nat) (w : World) (hx : xs.length = n1) (hy : ys.length = n2) (hn1 : n1 ≤ 1048576) (hn2 : n2 ≤ 1048576) (hw : SzS xs) (hw2 : SzM ys) (hR1 : RowC seC 4 w p1 xs) (hR2 : RowC msC 6 w p2 ys) :
    Calls Tryz.prog 55 #[.agg #[.slice p1 n1 c1, .slice p2 n2 c2]] w fun e w' => (∃ q1 l1 q2 l2, e = .returned (.agg #[.slice q1 n1 l1, .slice q2 n2 l2]) ∧ OwnC seC w' w.heap.size 70 4 (.slice q1 n1 l1) xs ∧ OwnC msC w' w.heap.size 35 6 (.slice q2 n2 l2) ys) ∧ Below w.heap.size w w' := by
  have HP1 := Lib.hid (fun W (h : Below w.heap.size w W) => hR1.on h)
  have HP2 := Lib.hid (fun W (h : Below w.heap.size w W) => hR2.on h)
  have i4 := fun W h => impl_sescopy xs p1 c1 W (by omega) hw h
  rw [hx] at i4
  have HW := Lib.hid hw2
  have HN := Lib.hid hy
  have HL := Lib.hid (lcb_start w p1 n1 c1 p2 n2 c2)
  clear hR1 hR2 hw hw2 hx hy
  obtain ⟨i0, hi, hz0, hz1, hz2⟩ := info_parts info_ms
  go_enter Tryz.func55, Tryz.ntmps55
  go_wp2_with (refine wpList_make_own _ rfl _ _ 31 rfl (w.heap.size + 2) 35 i0 _ 6 Tryz.underlying31 hi hz0 hz1 .i64 .i64 _ n2 rfl rfl rfl (by rw [hz2]; omega) (by unfold maxLen; omega) (by simp) ?_; intro w1 ho1 hg1; have HV1 : Hid (OwnC msC w1 (w.heap.size + 2) 35 6 (.slice (some ⟨w.heap.size + 1 + 1, 0, none⟩) 0 n2) []) := Lib.hid (by have h := ho1; simp only [World.size_alloc] at h; exact h); have HL1 : Hid (LcB w w1 p1 n1 c1 p2 n2 c2) := Lib.hid (HL.out.grow hg1 (fun k hk => by cases hk)); clear ho1 hg1; obtain ⟨⟨c0, c1_⟩, _⟩ := arr9_two HL1.out.1)
  go_loopw [3, 13] (fun sq iq wr => ∃ k : Nat, k ≤ n2 ∧ iq = .int .i64 k ∧ sq = .slice (some ⟨w.heap.size + 1 + 1, 0, none⟩) k n2 ∧ OwnC msC wr (w.heap.size + 2) 35 6 (.slice (some ⟨w.heap.size + 1 + 1, 0, none⟩) k n2) (ys.take k) ∧ LcB w wr p1 n1 c1 p2 n2 c2) (fun _ i _ => n2 - (intOf i).toNat)
  case atStart => exact ⟨0, Nat.zero_le _, rfl, by simp, HV1.out, HL1.out⟩
  case round =>
    obtain ⟨k, hk, rfl, rfl, hv, hl⟩ := hrel
    have HV := Lib.hid hv
    have HB := Lib.hid hl
    clear hv c0 c1_
    by_cases hlt : k < n2
    · have hlt1 : k < ys.length := by rw [HN.out]; exact hlt
      obtain ⟨g, rfl, hg, a0, a1, a2, a3, a4, a5⟩ := row_ms6 (HP2.out _ hl.2.2) hlt1
      have hyw := HW.out _ (List.getElem_mem hlt1)
      obtain ⟨y, hy⟩ : ∃ y, ys[k] = y := ⟨_, rfl⟩
      rw [hy] at a0 a1 a2 a3 a4 a5 hyw
      obtain ⟨s0, s1, s2, s3, s4⟩ := hyw
      have i3 := fun W => impl_stcopy y.k y.t y.f y.o y.n y.b W (by omega) (by omega) (by omega) (by omega) (by omega)
      have HT : Hid (ys.take (k + 1) = ys.take k ++ [y]) := Lib.hid (by rw [List.take_succ_eq_append_getElem hlt1, hy])
      have HLL : Hid ((ys.take k).length = k) := Lib.hid (by rw [List.length_take]; omega)
      clear hl hy
      go_wp2_with (first
        | (at_builtin; have _ := HV2; refine app_fitM _ rfl _ _ rfl (w.heap.size + 2) (w.heap.size + 1 + 1) k n2 _ rfl (HV2.out.alloc _) HLL.out w2.heap.size y rfl (Arr.fresh w2 35 (msC y)) (by omega) ?_; intro w3 hv3 hg3; have HV3 := Lib.hid hv3; have HB3 := Lib.hid ((HB2.out.on ((Below.refl _ _).alloc (Nat.le_refl _) _)).grow hg3 (fun q hq => by injection hq with hq; omega)); clear hv3 hg3)
        | (go_at_call 56; go_fit (i3 _); rintro e w2 ⟨rfl, hb2⟩; have HV2 := Lib.hid ((HV.out.alloc _).on hb2); have HB2 := Lib.hid ((HB.out.on ((Below.refl _ _).alloc (Nat.le_refl _) _)).on hb2); clear hb2))
      go_roundw
      case rel => exact ⟨k + 1, by omega, by go_num, rfl, by rw [HT.out]; exact HV3.out, HB3.out⟩
      case measure => simp [intOf]; omega
    · obtain rfl : k = n2 := by omega
      have HT : Hid (ys.take k = ys) := Lib.hid (List.take_of_length_le (by rw [HN.out]; exact Nat.le_refl _))
      obtain ⟨⟨c0, c1_⟩, _⟩ := arr9_two HB.out.1
      clear hl
      go_wp2_with (go_at_call 87; go_fit (i4 _ (HP1.out _ HB.out.2.2)); rintro e w3 ⟨⟨rfl, hv⟩, hb3⟩; have HV3 := Lib.hid hv; have HK3 := Lib.hid (HV.out.on hb3); have HB3 := Lib.hid (HB.out.on hb3); clear hb3 hv; obtain ⟨⟨e0, e1⟩, f0, f1⟩ := arr9_two HB3.out.2.1)
      have hE := (HB3.out.2.1.put 0 (.slice (some ⟨wr.heap.size, 0, none⟩) n1 n1)).put 1 (.slice (some ⟨w.heap.size + 1 + 1, 0, none⟩) k k)
      have hbig := HB.out.big
      have h1 := (HV3.out.low (a := ⟨w.heap.size + 1, 0, none⟩) (by show w.heap.size + 1 < wr.heap.size; omega) (.slice (some ⟨wr.heap.size, 0, none⟩) n1 n1)).low (a := ⟨w.heap.size + 1, 1, none⟩) (by show w.heap.size + 1 < wr.heap.size; omega) (.slice (some ⟨w.heap.size + 1 + 1, 0, none⟩) k k)
      have h2 := (HK3.out.low (a := ⟨w.heap.size + 1, 0, none⟩) (Nat.lt_succ_self _) (.slice (some ⟨wr.heap.size, 0, none⟩) n1 n1)).low (a := ⟨w.heap.size + 1, 1, none⟩) (Nat.lt_succ_self _) (.slice (some ⟨w.heap.size + 1 + 1, 0, none⟩) k k)
      rw [HT.out] at h2
      exact bodyPost_ret (v := .agg #[.slice (some ⟨wr.heap.size, 0, none⟩) n1 n1, .slice (some ⟨w.heap.size + 1 + 1, 0, none⟩) k k]) (results_cell_row (P := Tryz.prog) Tryz.results55 _ _ (w.heap.size + 1) 33 _ (0, 0) _ rfl hE Tryz.underlying33 rfl (by kernel_rfl)) rfl
        ⟨⟨_, _, _, _, rfl, h1.mono (by omega), h2.mono (by omega)⟩, (HB3.out.2.2.setCell (p := ⟨w.heap.size + 1, 0, none⟩) (Nat.le_succ _) _).setCell (p := ⟨w.heap.size + 1, 1, none⟩) (Nat.le_succ _) _⟩
end Go.Proofs.YtpjmcpfmnlfmdaaGreat
