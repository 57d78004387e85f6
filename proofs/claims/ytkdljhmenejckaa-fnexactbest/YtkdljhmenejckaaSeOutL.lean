/- The small functions of the laws on answers with sessions: comparison, marks. -/
import Derived.Test.YtkdljhmenejckaaSeLawR
import Derived.Test.YtkdljhmenejckaaSeWithI
import Derived.Test.YtkdljhmenejckaaRwSession
namespace Go.Proofs.Ytkdljhmenejckaa
set_option linter.unusedSimpArgs false
set_option linter.unusedVariables false
open Go.RowKit Go.Joins

theorem twoS {w w1 : World} {cs ds : List Value} {t : Nat} (h : Below ((w.alloc (.cells cs.toArray t)).alloc (.cells ds.toArray t)).heap.size ((w.alloc (.cells cs.toArray t)).alloc (.cells ds.toArray t)) w1) :
    Arr w1 w.heap.size t cs ∧ Arr w1 (w.heap.size + 1) t ds ∧ Below w.heap.size w w1 := by
  have h2 := Arr.fresh (w.alloc (.cells cs.toArray t)) t ds
  rw [World.size_alloc] at h2
  exact ⟨arr9_on (arr9_on (Arr.fresh w t cs) ((Below.refl _ _).alloc (Nat.le_refl _) _)) h, arr9_on h2 h, ((((Below.refl _ _).alloc (Nat.le_refl _) _).alloc (by simp) _)).trans (h.mono (by simp; omega))⟩
def soC (R : SoL) (p : Option Addr) (k : Nat) : List Value := [.slice p R.l.length k, .int .i64 R.c]
def soV (R : SoL) (p : Option Addr) (k : Nat) : Value := .agg #[.slice p R.l.length k, .int .i64 R.c]
theorem mark_xs (xs : List SeL) (n : Nat) (hxn : xs.length = n) (p : Option Addr) (k B : Nat) (w : World) (hn : n ≤ 1048576) (hB : B ≤ w.heap.size) (h : OwnC seC w B 42 4 (.slice p n k) xs) :
    Calls Try.prog 38 #[.slice p n k, .int .i64 1] w fun e w' => e = .returned (.int .i64 (1 + n * 4)) ∧ MFrame B (.slice p n k) w w' := by
  subst hxn
  refine (marks_se seC B 1 (.slice p xs.length k) xs w (by decide) (by decide) (by omega) hB h).mono ?_
  rintro e w' ⟨rfl, _, hF⟩
  exact ⟨rfl, hF⟩
/-- An answer in a box of the law's. -/
def OutS (b B : Nat) (W : World) (R : SoL) (p : Option Addr) (k : Nat) : Prop := Arr W b 27 (soC R p k) ∧ OwnC seC W B 42 4 (.slice p R.l.length k) R.l
theorem OutS.on {b B : Nat} {W W2 : World} {R : SoL} {p : Option Addr} {k : Nat} (h : OutS b B W R p k) (hb : Below W.heap.size W W2) : OutS b B W2 R p k := ⟨arr9_on h.1 hb, h.2.on hb⟩
theorem OutS.new {B : Nat} {W : World} {R : SoL} {p : Option Addr} {k : Nat} (h : OwnC seC W B 42 4 (.slice p R.l.length k) R.l) : OutS W.heap.size B (W.alloc (.cells (soC R p k).toArray 27)) R p k := ⟨Arr.fresh W _ _, h.alloc _⟩
theorem OutS.two {b B : Nat} {W : World} {R : SoL} {p : Option Addr} {k : Nat} (h : OutS b B W R p k) : (W.cell? ⟨b, 0, none⟩ = some (.slice p R.l.length k) ∧ W.cell? ⟨b, 1, none⟩ = some (.int .i64 R.c)) ∧ b < W.heap.size := ⟨(arr9_two h.1).1, arr9_lt h.1⟩
theorem mown_frame {α : Type} {enc : α → List Value} {B B2 e size : Nat} {v u : Value} {xs : List α} {w W : World} (h : MFrame B v w W) (ho : OwnC enc w B2 e size u xs) (hne : ∀ a b, v.ownBlock = some a → u.ownBlock = some b → b ≠ a) : OwnC enc W B2 e size u xs := by
  refine ⟨ho.1, ?_⟩
  rcases ho.2 with h0 | ⟨g, cap, cur, h1, h2, h3, h4⟩
  · exact .inl h0
  · refine .inr ⟨g, cap, cur, h1, h2, (h.2.2 g (Array.getElem?_eq_some_iff.1 h3).1 (fun a ha => hne a g ha (by rw [h1]; rfl))).trans h3, h4⟩
theorem own_ltS {w : World} {B e size : Nat} {v : Value} {xs : List SeL} (h : OwnC seC w B e size v xs) : ∀ k, v.ownBlock = some k → B ≤ k ∧ k < w.heap.size := by
  intro k hk
  rcases h.2 with ⟨h0, _⟩ | ⟨g, c, cur, h1, h2, h3, _⟩
  · rw [h0] at hk; cases hk
  · rw [h1] at hk
    injection hk with hk
    subst hk
    exact ⟨h2, (Array.getElem?_eq_some_iff.1 h3).1⟩
/-- A row of sessions is no box of an answer. -/
theorem own_neS {w : World} {B b : Nat} {v : Value} {xs : List SeL} {cs : List Value} (h : OwnC seC w B 42 4 v xs) (hA : Arr w b 27 cs) : ∀ g, v.ownBlock = some g → b ≠ g := by
  intro g hg e
  subst e
  rcases h.2 with ⟨h0, _⟩ | ⟨g', cap, cur, h1, h2, h3, h4⟩
  · rw [h0] at hg; cases hg
  · rw [h1] at hg
    injection hg with hg
    have hg : g' = b := hg
    subst hg
    unfold Arr at hA
    rw [h3] at hA
    injection hA with hA
    injection hA with _ hA
    cases hA
/-- Another row is marked. -/
theorem OutS.mark {b B B2 B3 : Nat} {W W2 : World} {R : SoL} {p : Option Addr} {k : Nat} {v : Value} {xs : List SeL} (h : OutS b B W R p k) (hF : MFrame B3 v W W2) (hv : OwnC seC W B2 42 4 v xs)
    (hne : ∀ a g, v.ownBlock = some a → (Value.slice p R.l.length k).ownBlock = some g → g ≠ a) : OutS b B W2 R p k := ⟨hF.arr h.1 (own_neS hv h.1), mown_frame hF h.2 hne⟩
end Go.Proofs.Ytkdljhmenejckaa
