/- The small functions of the laws on answers with a dialback: comparison, marks. -/
import Derived.Test.YtkjkfcljejjpbaaDoorDbFnS
import Derived.Test.YtkjkfcljejjpbaaDoorDbLaw
import Derived.Test.YtkjkfcljejjpbaaDoorRwPeer
namespace Go.Proofs.YtkjkfcljejjpbaaDoor
set_option linter.unusedSimpArgs false
set_option linter.unusedVariables false
open Go.RowKit Go.Joins

def doC (R : DoR) (p : Option Addr) (k : Nat) : List Value := [.string R.d, .int .i64 R.n, .slice p R.ps.length k, .int .i64 R.i, .int .i64 R.c]
theorem two_do {w w1 : World} {cs ds : List Value} {t : Nat} (h : Below ((w.alloc (.cells cs.toArray t)).alloc (.cells ds.toArray t)).heap.size ((w.alloc (.cells cs.toArray t)).alloc (.cells ds.toArray t)) w1) :
    Arr w1 w.heap.size t cs ∧ Arr w1 (w.heap.size + 1) t ds ∧ Below w.heap.size w w1 := by
  have h2 := Arr.fresh (w.alloc (.cells cs.toArray t)) t ds
  rw [World.size_alloc] at h2
  exact ⟨(h.block _ (by simp; omega)).trans (arr_alloc (Arr.fresh w t cs) _), (h.block _ (by simp)).trans h2, ((((Below.refl _ _).alloc (Nat.le_refl _) _).alloc (by simp) _)).trans (h.mono (by simp; omega))⟩
theorem MFrame.own {α : Type} {enc : α → List Value} {B B2 e size : Nat} {v u : Value} {xs : List α} {w W : World} (h : MFrame B v w W) (ho : OwnC enc w B2 e size u xs) (hne : ∀ a b, v.ownBlock = some a → u.ownBlock = some b → b ≠ a) : OwnC enc W B2 e size u xs := by
  refine ⟨ho.1, ?_⟩
  rcases ho.2 with h0 | ⟨g, cap, cur, h1, h2, h3, h4⟩
  · exact .inl h0
  · refine .inr ⟨g, cap, cur, h1, h2, (h.2.2 g (Array.getElem?_eq_some_iff.1 h3).1 (fun a ha => hne a g ha (by rw [h1]; rfl))).trans h3, h4⟩
/-- An answer in a box of the law's. -/
def OutB (b B : Nat) (W : World) (R : DoR) (p : Option Addr) (k : Nat) : Prop := Arr W b 29 (doC R p k) ∧ OwnC prC W B 43 4 (.slice p R.ps.length k) R.ps
theorem OutB.on {b B : Nat} {W W2 : World} {R : DoR} {p : Option Addr} {k : Nat} (h : OutB b B W R p k) (hb : Below W.heap.size W W2) : OutB b B W2 R p k := ⟨arr_below h.1 hb, h.2.on hb⟩
theorem OutB.new {B : Nat} {W : World} {R : DoR} {p : Option Addr} {k : Nat} (h : OwnC prC W B 43 4 (.slice p R.ps.length k) R.ps) : OutB W.heap.size B (W.alloc (.cells (doC R p k).toArray 29)) R p k := ⟨Arr.fresh W _ _, h.alloc _⟩
/-- What lies lower than the marked row stays. -/
theorem OutB.low {b B B2 : Nat} {W W2 : World} {R : DoR} {p : Option Addr} {k : Nat} {v2 : Value} (h : OutB b B W R p k) (hF : MFrame B2 v2 W W2) (hb : b < B2) (hv : ∀ g, (Value.slice p R.ps.length k).ownBlock = some g → g < B2) : OutB b B W2 R p k := by
  refine ⟨arr_keep h.1 hF.1 hb, h.2.1, ?_⟩
  rcases h.2.2 with h0 | ⟨g, cap, cur, h1, h2, h3, h4⟩
  · exact .inl h0
  · refine .inr ⟨g, cap, cur, h1, h2, (hF.1.block g (hv g ?_)).trans h3, h4⟩
    rw [h1]
    rfl
/-- The argument's copy in a box. -/
def CopB (b B : Nat) (W : World) (d : ByteArray) (n : Int) (ps : List PrL) (p : Option Addr) (m k : Nat) : Prop := Arr W b 25 [.string d, .int .i64 n, .slice p m k] ∧ OwnC prC W B 43 4 (.slice p m k) ps
theorem CopB.on {b B : Nat} {W W2 : World} {d : ByteArray} {n : Int} {ps : List PrL} {p : Option Addr} {m k : Nat} (h : CopB b B W d n ps p m k) (hb : Below W.heap.size W W2) : CopB b B W2 d n ps p m k := ⟨arr_below h.1 hb, h.2.on hb⟩
theorem CopB.new {B : Nat} {W : World} {d : ByteArray} {n : Int} {ps : List PrL} {p : Option Addr} {m k : Nat} (h : OwnC prC W B 43 4 (.slice p m k) ps) : CopB W.heap.size B (W.alloc (.cells #[.string d, .int .i64 n, .slice p m k] 25)) d n ps p m k := ⟨Arr.fresh W _ [.string d, .int .i64 n, .slice p m k], h.alloc _⟩
end Go.Proofs.YtkjkfcljejjpbaaDoor
