/- A dialback among the arguments of a law. -/
import Derived.Test.YtpbogdfgomfpjaaDoorDbPeer
namespace Go.Proofs.YtpbogdfgomfpjaaDoor
set_option linter.unusedSimpArgs false
set_option linter.unusedVariables false
open Go.ChangeShapes Go.WideShapes Go.ChangeAt Go.RowKit Go.Joins

/-- A slice of peers among the arguments. -/
def PsArg (W : World) (a : Option Addr) (len : Nat) (ps : List PrL) : Prop := ps.length = len ∧ len ≤ maxLen ∧ (∀ p ∈ ps, p.wf) ∧ RowA prC 4 W a ps
theorem addr_plain {w : World} {x : Addr} {v : Value} (h : w.cell? x = some v) : x = ⟨x.block, x.off, none⟩ := by
  obtain ⟨b, off, sp⟩ := x
  cases sp with
  | none => rfl
  | some s =>
    simp [World.cell?] at h
    split at h <;> cases h
theorem mapM_four {f : Nat → Option Value} {cs : List Value} (h : (List.range 4).mapM f = some cs) : ∃ c0 c1 c2 c3, cs = [c0, c1, c2, c3] ∧ f 0 = some c0 ∧ f 1 = some c1 ∧ f 2 = some c2 ∧ f 3 = some c3 := by
  rw [show List.range 4 = [0, 1, 2, 3] from rfl] at h
  simp only [List.mapM_cons, List.mapM_nil, Option.bind_eq_bind, Option.pure_def] at h
  cases h0 : f 0 with
  | none => rw [h0] at h; simp at h
  | some c0 =>
    cases h1 : f 1 with
    | none => rw [h0, h1] at h; simp at h
    | some c1 =>
      cases h2 : f 2 with
      | none => rw [h0, h1, h2] at h; simp at h
      | some c2 =>
        cases h3 : f 3 with
        | none => rw [h0, h1, h2, h3] at h; simp at h
        | some c3 =>
          rw [h0, h1, h2, h3] at h
          simp at h
          exact ⟨c0, c1, c2, c3, h.symm, rfl, rfl, rfl, rfl⟩
theorem cells_four {W : World} {base : Nat} {a : Addr} {cs : List Value} (h : W.cells? base a 4 = some cs) : ∃ c0 c1 c2 c3, cs = [c0, c1, c2, c3] ∧ W.cell? (a.add 0) = some c0 ∧ W.cell? (a.add 1) = some c1 ∧ W.cell? (a.add 2) = some c2 ∧ W.cell? (a.add 3) = some c3 := by
  unfold World.cells? at h
  split at h
  · exact mapM_four h
  · cases h
set_option maxRecDepth 100000 in
theorem peers_trod {H : Type} {enc : TypeId × Value → H} {W : World} {base : Nat} {sp : Nat → Bool} {held : Bool} {fuel : Nat} {c : Value} {x : DataW H × List MemPlace}
    (hf : DataW.trod enc Tryd.prog W base sp held fuel 52 [c] = some x) : ∃ a len cap ps, c = .slice a len cap ∧ PsArg W a len ps := by
  rcases Deep.open_slice Tryd.underlying52 hf with ⟨hcs, _⟩ | ⟨a, len, cap, m, n, D, Pl, hcs, hb, hl, hm, hmm, hx, hall⟩
  · injection hcs with h1
    exact ⟨none, 0, 0, [], h1, rfl, Nat.zero_le _, fun p hp => (by cases hp), fun h => absurd rfl h⟩
  · injection hcs with h1
    have hlm : len ≤ m := by rw [hmm]; split <;> omega
    have each : ∀ i, i < len → ∃ p : PrL, p.wf ∧ ∀ j, j < 4 → W.cell? ((a.add (i * 4)).add j) = (prC p)[j]? := by
      intro i hi
      obtain ⟨cs', hc, ht⟩ := hall i (by omega)
      rw [cellsPr] at hc
      obtain ⟨c0, c1, c2, c3, rfl, e0, e1, e2, e3⟩ := cells_four hc
      obtain ⟨p, hp, hw⟩ := peer_trod ht
      refine ⟨p, hw, fun j hj => ?_⟩
      rw [← hp]
      match j, hj with
      | 0, _ => exact e0
      | 1, _ => exact e1
      | 2, _ => exact e2
      | 3, _ => exact e3
    obtain ⟨P, hP⟩ := Deep.choose_lt each
    refine ⟨some a, len, cap, (List.range len).map P, h1, by simp, by omega, fun p hp => ?_, fun hne => ?_⟩
    · obtain ⟨i, hi, rfl⟩ := List.mem_map.1 hp
      exact (hP i (List.mem_range.1 hi)).1
    · have h0 : 0 < len := by
        rcases Nat.eq_zero_or_pos len with h | h
        · subst h; exact absurd rfl hne
        · exact h
      have hc0 := (hP 0 h0).2 0 (by decide)
      simp only [Nat.zero_mul] at hc0
      have ha : W.cell? a = some (.string (P 0).d) := hc0
      have hap := addr_plain ha
      refine ⟨a.block, a.off, by rw [← hap], ?_, fun i hi j hj => ?_⟩
      · exact block_lt_of_cell ha
      · have hi' : i < len := by simpa using hi
        have h2 := (hP i hi').2 j hj
        rw [Deep.add_add, hap] at h2
        simp only [List.getElem_map, List.getElem_range]
        rw [← h2]
        congr 1
        unfold Addr.add
        split
        · rename_i h3; rw [h3]; rfl
        · rfl
def dbV (d : ByteArray) (n : Int) (a : Option Addr) (len cap : Nat) : Value := .agg #[.string d, .int .i64 n, .slice a len cap]
/-- A dialback among the arguments. -/
def DbArg (W : World) (d : ByteArray) (n : Int) (a : Option Addr) (len : Nat) (ps : List PrL) : Prop := d.size ≤ maxLen ∧ (Lit.int .i64 n).wf = true ∧ PsArg W a len ps
set_option maxRecDepth 100000 in
theorem db_open {H : Type} {enc : TypeId × Value → H} {W : World} {base : Nat} {sp : Nat → Bool} {held : Bool} {r : Reach} {b0 : Nat} {v : Value} {D : DataW H} {p : List MemPlace}
    (hv : Value.okWide Tryd.prog W r b0 54 v) (h : DataW.Trod enc Tryd.prog W base sp held 54 v D p) :
    ∃ d n a len cap ps, v = dbV d n a len cap ∧ DbArg W d n a len ps := by
  obtain ⟨cs, rfl, hsz⟩ := okWide_struct Tryd.underlying54 hv
  rw [cellsDb] at hsz
  obtain ⟨fuel, hf⟩ := h
  obtain ⟨xs, m, _, hx, hl, hlen, hall⟩ := DataW.trod_struct Tryd.underlying54 hf
  obtain ⟨l⟩ := cs
  match l, hsz, xs, hlen with
  | [c0, c1, c2], _, [y0, y1, y2], _ =>
    have g0 := hall 0 _ rfl
    have g1 := hall 1 _ rfl
    have g2 := hall 2 _ rfl
    simp [Value.cells, cellsStr6, cellsI646, cellsPs] at g0 g1 g2
    obtain ⟨d, e0, _, w0⟩ := DataW.trod_string Tryd.underlying9 g0
    obtain ⟨n, e1, _, w1⟩ := DataW.trod_int Tryd.underlying2 g1
    obtain ⟨a, len, cap, ps, e2, w2⟩ := peers_trod g2
    simp at e0 e1
    subst e0 e1 e2
    exact ⟨d, n, a, len, cap, ps, rfl, w0, w1, w2⟩
end Go.Proofs.YtpbogdfgomfpjaaDoor
