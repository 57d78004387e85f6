/- Answers with a half: their values, their boxes; spec.l08Ill and spec.l08Sent. -/
import Derived.Test.YtgfpcmfcnphalaaHfRight
import Derived.Laws.CopyOwn
namespace Go.Proofs.Ytgfpcmfcnphalaa
set_option linter.unusedSimpArgs false
set_option linter.unusedVariables false
open Go.RowKit

theorem arr_ltH {w : World} {b t : Nat} {cs : List Value} (h : Arr w b t cs) : b < w.heap.size := (Array.getElem?_eq_some_iff.1 h).1
/-- The boxes that a call has made first. -/
def Bx (w W : World) (l : List (Nat × List Value)) : Prop := Below w.heap.size w W ∧ ∀ k (h : k < l.length), Arr W (w.heap.size + k) l[k].1 l[k].2
theorem Bx.on {w W W2 : World} {l : List (Nat × List Value)} (h : Bx w W l) (hb : Below W.heap.size W W2) : Bx w W2 l :=
  ⟨h.1.trans (hb.mono h.1.size), fun k hk => (hb.block _ (arr_ltH (h.2 k hk))).trans (h.2 k hk)⟩
theorem Bx.alloc {w W : World} {l : List (Nat × List Value)} (h : Bx w W l) (hs : W.heap.size = w.heap.size + l.length) (t : Nat) (c : List Value) : Bx w (W.alloc (.cells c.toArray t)) (l ++ [(t, c)]) := by
  refine ⟨h.1.alloc (by omega) _, fun k hk => ?_⟩
  by_cases e : k < l.length
  · rw [List.getElem_append_left e]
    exact ((Below.refl _ W).alloc (Nat.le_refl _) _).block _ (by omega) |>.trans (h.2 k e)
  · have hk' : k = l.length := by simp at hk; omega
    subst hk'
    have := Arr.fresh W t c
    rw [hs] at this
    simpa using this
theorem bx1 (w : World) (t : Nat) (c : List Value) : Bx w (w.alloc (.cells c.toArray t)) [(t, c)] :=
  Bx.alloc (l := []) ⟨Below.refl _ _, fun k hk => absurd hk (Nat.not_lt_zero _)⟩ rfl t c
theorem bx2 (w : World) (t u : Nat) (c d : List Value) : Bx w ((w.alloc (.cells c.toArray t)).alloc (.cells d.toArray u)) [(t, c), (u, d)] := (bx1 w t c).alloc (by simp) u d
theorem bx3 (w : World) (t u x : Nat) (c d e : List Value) : Bx w (((w.alloc (.cells c.toArray t)).alloc (.cells d.toArray u)).alloc (.cells e.toArray x)) [(t, c), (u, d), (x, e)] := (bx2 w t u c d).alloc (by simp) x e
theorem Bx.row {w W : World} {l : List (Nat × List Value)} (h : Bx w W l) (i : Nat) (hi : i < l.length) (cs : List Value) : Bx w (W.setRow (w.heap.size + i) cs.toArray) (l.set i (l[i].1, cs)) := by
  refine ⟨below_setRow h.1 (by omega) _, fun k hk => ?_⟩
  by_cases e : k = i
  · subst e
    rw [List.getElem_set_self]
    exact setRow_heap W _ _ _ _ _ (h.2 k hi)
  · rw [List.getElem_set_ne (by omega)]
    exact (setRow_other W _ _ _ (by omega)).trans (h.2 k (by simpa using hk))
theorem OwnC.setRowH {α : Type} {enc : α → List Value} {w : World} {B e size : Nat} {v : Value} {xs : List α} (h : OwnC enc w B e size v xs) {z : Nat} (hz : z < B) (ds : Array Value) : OwnC enc (w.setRow z ds) B e size v xs := by
  refine ⟨h.1, ?_⟩
  rcases h.2 with h0 | ⟨g, cap, cur, h1, h2, h3, h4⟩
  · exact .inl h0
  · exact .inr ⟨g, cap, cur, h1, h2, (setRow_other w z g ds (by omega)).trans h3, h4⟩
/-- An answer's cells. -/
abbrev hoC (h : HfL) (p : Option Addr) (m k : Nat) (c : Int) : List Value := [.int .i64 h.n, .int .i64 h.o, .int .i64 h.t, .int .i64 h.i, .int .i64 h.f, .slice p m k, .int .i64 c]
abbrev hoV (h : HfL) (p : Option Addr) (m k : Nat) (c : Int) : Value := .agg #[.int .i64 h.n, .int .i64 h.o, .int .i64 h.t, .int .i64 h.i, .int .i64 h.f, .slice p m k, .int .i64 c]
abbrev hoZ : List Value := [.int .i64 0, .int .i64 0, .int .i64 0, .int .i64 0, .int .i64 0, .slice none 0 0, .int .i64 0]
/-- The answer is R, with what is sent in memory from B on. -/
def HoIs (B : Nat) (R : HoL) (e : Ending) (w' : World) : Prop := ∃ p k, e = .returned (hoV R.h p R.s.length k R.c) ∧ OwnC sbC w' B 32 2 (.slice p R.s.length k) R.s
theorem ho_ill (c : Int) (B : Nat) (w : World) : HoIs B (illH c) (.returned (.agg #[.int .i64 0, .int .i64 0, .int .i64 0, .int .i64 0, .int .i64 0, .slice none 0 0, .int .i64 c])) w := ⟨none, 0, rfl, ownC_nil _ _ _ _ _⟩
set_option maxHeartbeats 400000 in
theorem spec_illH (c : Int) (w : World) : Calls Try.prog 44 #[.int .i64 c] w fun e w' => e = .returned (.agg #[.int .i64 0, .int .i64 0, .int .i64 0, .int .i64 0, .int .i64 0, .slice none 0 0, .int .i64 c]) ∧ Below w.heap.size w w' := by
  go_enter Try.func44, Try.ntmps44
  go_wp2
  have HY := bx1 w 29 [.int .i64 0, .int .i64 0, .int .i64 0, .int .i64 0, .int .i64 0, .slice none 0 0, .int .i64 c]
  exact bodyPost_ret (v := hoV hf0 none 0 0 c) (results_cell_row (P := Try.prog) Try.results44 _ _ w.heap.size 29 _ (0, 0) _ rfl (HY.2 0 (show 0 < 1 by decide)) Try.underlying29 rfl (by kernel_rfl)) rfl ⟨rfl, HY.1⟩
theorem one_sub (w : World) (k m : Int) : OwnC sbC (w.alloc (.cells #[.int .i64 k, .int .i64 m] 32)) w.heap.size 32 2 (.slice (some ⟨w.heap.size, 0, none⟩) 1 1) [⟨k, m⟩] :=
  World.ownsRow_lit w #[.int .i64 k, .int .i64 m] 1 (Nat.le_refl _) (by unfold maxLen; omega) rfl
set_option maxHeartbeats 400000 in
theorem spec_sentH (n o t i f k m : Int) (w : World) : Calls Try.prog 60 #[.agg #[.int .i64 n, .int .i64 o, .int .i64 t, .int .i64 i, .int .i64 f], .int .i64 k, .int .i64 m] w fun e w' => HoIs w.heap.size (sentH ⟨n, o, t, i, f⟩ k m) e w' ∧ Below w.heap.size w w' := by
  go_enter Try.func60, Try.ntmps60
  go_wp2
  have HY := bx3 w 24 29 32 [.int .i64 n, .int .i64 o, .int .i64 t, .int .i64 i, .int .i64 f] (hoC ⟨n, o, t, i, f⟩ (some ⟨w.heap.size + 1 + 1, 0, none⟩) 1 1 0) [.int .i64 k, .int .i64 m]
  have HO := one_sub ((w.alloc (.cells #[.int .i64 n, .int .i64 o, .int .i64 t, .int .i64 i, .int .i64 f] 24)).alloc (.cells (hoC ⟨n, o, t, i, f⟩ (some ⟨w.heap.size + 1 + 1, 0, none⟩) 1 1 0).toArray 29)) k m
  rw [World.size_alloc, World.size_alloc] at HO
  exact bodyPost_ret (v := hoV ⟨n, o, t, i, f⟩ (some ⟨w.heap.size + 1 + 1, 0, none⟩) 1 1 0) (results_cell_row (P := Try.prog) Try.results60 _ _ (w.heap.size + 1) 29 _ (0, 0) _ rfl (HY.2 1 (show 1 < 3 by decide)) Try.underlying29 rfl (by kernel_rfl)) rfl ⟨⟨_, _, rfl, HO.mono (by omega)⟩, HY.1⟩
end Go.Proofs.Ytgfpcmfcnphalaa
