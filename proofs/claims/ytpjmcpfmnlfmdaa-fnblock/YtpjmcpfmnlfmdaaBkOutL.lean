/- The small functions of the laws on answers with texts: comparison, marks. -/
import Derived.Test.YtpjmcpfmnlfmdaaBkMath
import Derived.Test.YtpjmcpfmnlfmdaaBkLawR
namespace Go.Proofs.Ytpjmcpfmnlfmdaa
set_option linter.unusedSimpArgs false
set_option linter.unusedVariables false
open Go.RowKit Go.Joins

theorem twoX {w w1 : World} {cs ds : List Value} {t : Nat} (h : Below ((w.alloc (.cells cs.toArray t)).alloc (.cells ds.toArray t)).heap.size ((w.alloc (.cells cs.toArray t)).alloc (.cells ds.toArray t)) w1) :
    Arr w1 w.heap.size t cs ∧ Arr w1 (w.heap.size + 1) t ds ∧ Below w.heap.size w w1 := by
  have h2 := Arr.fresh (w.alloc (.cells cs.toArray t)) t ds
  rw [World.size_alloc] at h2
  exact ⟨arrX_on (arrX_on (Arr.fresh w t cs) ((Below.refl _ _).alloc (Nat.le_refl _) _)) h, arrX_on h2 h, ((((Below.refl _ _).alloc (Nat.le_refl _) _).alloc (by simp) _)).trans (h.mono (by simp; omega))⟩
def boC (R : BoL) (p : Option Addr) (k : Nat) : List Value := [.slice p R.l.length k, .int .i64 R.c]
def boV (R : BoL) (p : Option Addr) (k : Nat) : Value := .agg #[.slice p R.l.length k, .int .i64 R.c]
set_option maxRecDepth 100000 in
set_option maxHeartbeats 400000 in
theorem eq_outX (R : BoL) (p q : Option Addr) (k l : Nat) (w : World) (hn : R.l.length ≤ 2000000) (hp : RowC strC 1 w p R.l) (hq : RowC strC 1 w q R.l) :
    Calls Try.prog 30 #[boV R p k, boV R q l] w fun e w' => e = .returned (.bool true) ∧ Below w.heap.size w w' := by
  have i1 := fun W hp hq => eqs_ss R.l p q k l W hn hp hq
  have HK := Lib.hid (fun w1 (h : Below ((w.alloc (.cells (boC R p k).toArray 27)).alloc (.cells (boC R q l).toArray 27)).heap.size ((w.alloc (.cells (boC R p k).toArray 27)).alloc (.cells (boC R q l).toArray 27)) w1) => twoX h)
  have HP := Lib.hid (hp.on (((Below.refl _ _).alloc (Nat.le_refl _) (.cells (boC R p k).toArray 27)).alloc (by simp) (.cells (boC R q l).toArray 27)))
  have HQ := Lib.hid (hq.on (((Below.refl _ _).alloc (Nat.le_refl _) (.cells (boC R p k).toArray 27)).alloc (by simp) (.cells (boC R q l).toArray 27)))
  clear hp hq
  unfold boV
  go_enter Try.func30, Try.ntmps30
  go_wp2_with (go_at_call 29; go_fit (i1 _ HP.out HQ.out); rintro e w1 ⟨rfl, hb1⟩; obtain ⟨hA, hB, hb⟩ := HK.out _ hb1; obtain ⟨⟨c0, c1⟩, _⟩ := arrX_two hA; obtain ⟨⟨d0, d1⟩, _⟩ := arrX_two hB; clear hA hB hb1)
  go_ret
  exact ⟨rfl, hb⟩
set_option maxHeartbeats 400000 in
theorem mark_outX (R : BoL) (p : Option Addr) (k B : Nat) (w : World) (hn : R.l.length ≤ 2000000) (hB : B ≤ w.heap.size) (h : OwnC strC w B 9 1 (.slice p R.l.length k) R.l) :
    Calls Try.prog 32 #[boV R p k, .int .i64 1] w fun e w' => e = .returned (.int .i64 (1 + R.l.length)) ∧ MOwn mk_ss 1 B 9 1 (.slice p R.l.length k) R.l.length w' ∧ MFrame B (.slice p R.l.length k) w w' := by
  have i1 := fun W (hB : B ≤ W.heap.size) h => marks_ss B 1 (.slice p R.l.length k) R.l W (by decide) (by decide) hn hB h
  have HO := Lib.hid h
  clear h
  unfold boV
  go_enter Try.func32, Try.ntmps32
  go_wp2_with (go_at_call 31; go_fit (i1 _ (by simp; omega) (HO.out.alloc _)); rintro e w1 ⟨rfl, hM, hF⟩)
  go_ret
  refine ⟨rfl, hM, ((Below.refl B w).alloc hB _).trans hF.1, Nat.le_trans (by simp) hF.2.1, fun x hx hne => ?_⟩
  rw [hF.2.2 x (by simp; omega) hne]
  exact heap_alloc_old w _ hx
set_option maxHeartbeats 400000 in
theorem held_outX (R : BoL) (p : Option Addr) (k B : Nat) (w : World) (hn : R.l.length ≤ 2000000) (h : MOwn mk_ss 1 B 9 1 (.slice p R.l.length k) R.l.length w) :
    Calls Try.prog 33 #[boV R p k, .int .i64 1] w fun e w' => e = .returned (.int .i64 (1 + R.l.length)) ∧ Below w.heap.size w w' := by
  have i1 := fun W h => helds_ss B 1 R.l.length (.slice p R.l.length k) W (by decide) (by decide) hn h
  have HO := Lib.hid h
  have hpos : ¬ ((1 : Int) + R.l.length < 0) := by omega
  clear h
  unfold boV
  go_enter Try.func33, Try.ntmps33
  go_wp2_with (go_at_call 70; go_fit (i1 _ (HO.out.on ((Below.refl _ _).alloc (Nat.le_refl _) _))); rintro e w1 ⟨rfl, hb⟩)
  go_ret
  exact ⟨rfl, below_one hb⟩
theorem mark_xsX (xs : List ByteArray) (n : Nat) (hxn : xs.length = n) (p : Option Addr) (k B : Nat) (w : World) (hn : n ≤ 1048576) (hB : B ≤ w.heap.size) (h : OwnC strC w B 9 1 (.slice p n k) xs) :
    Calls Try.prog 31 #[.slice p n k, .int .i64 1] w fun e w' => e = .returned (.int .i64 (1 + n)) ∧ MFrame B (.slice p n k) w w' := by
  subst hxn
  refine (marks_ss B 1 (.slice p xs.length k) xs w (by decide) (by decide) (by omega) hB h).mono ?_
  rintro e w' ⟨rfl, _, hF⟩
  exact ⟨rfl, hF⟩
/-- An answer in a box of the law's. -/
def OutX (b B : Nat) (W : World) (R : BoL) (p : Option Addr) (k : Nat) : Prop := Arr W b 27 (boC R p k) ∧ OwnC strC W B 9 1 (.slice p R.l.length k) R.l
theorem OutX.on {b B : Nat} {W W2 : World} {R : BoL} {p : Option Addr} {k : Nat} (h : OutX b B W R p k) (hb : Below W.heap.size W W2) : OutX b B W2 R p k := ⟨arrX_on h.1 hb, h.2.on hb⟩
theorem OutX.new {B : Nat} {W : World} {R : BoL} {p : Option Addr} {k : Nat} (h : OwnC strC W B 9 1 (.slice p R.l.length k) R.l) : OutX W.heap.size B (W.alloc (.cells (boC R p k).toArray 27)) R p k := ⟨Arr.fresh W _ _, h.alloc _⟩
theorem OutX.two {b B : Nat} {W : World} {R : BoL} {p : Option Addr} {k : Nat} (h : OutX b B W R p k) : (W.cell? ⟨b, 0, none⟩ = some (.slice p R.l.length k) ∧ W.cell? ⟨b, 1, none⟩ = some (.int .i64 R.c)) ∧ b < W.heap.size := ⟨(arrX_two h.1).1, arrX_lt h.1⟩
theorem mown_frameX {α : Type} {enc : α → List Value} {B B2 e size : Nat} {v u : Value} {xs : List α} {w W : World} (h : MFrame B v w W) (ho : OwnC enc w B2 e size u xs) (hne : ∀ a b, v.ownBlock = some a → u.ownBlock = some b → b ≠ a) : OwnC enc W B2 e size u xs := by
  refine ⟨ho.1, ?_⟩
  rcases ho.2 with h0 | ⟨g, cap, cur, h1, h2, h3, h4⟩
  · exact .inl h0
  · refine .inr ⟨g, cap, cur, h1, h2, (h.2.2 g (Array.getElem?_eq_some_iff.1 h3).1 (fun a ha => hne a g ha (by rw [h1]; rfl))).trans h3, h4⟩
theorem own_ltX {w : World} {B e size : Nat} {v : Value} {xs : List ByteArray} (h : OwnC strC w B e size v xs) : ∀ k, v.ownBlock = some k → B ≤ k ∧ k < w.heap.size := by
  intro k hk
  rcases h.2 with ⟨h0, _⟩ | ⟨g, c, cur, h1, h2, h3, _⟩
  · rw [h0] at hk; cases hk
  · rw [h1] at hk
    injection hk with hk
    subst hk
    exact ⟨h2, (Array.getElem?_eq_some_iff.1 h3).1⟩
/-- A row of sessions is no box of an answer. -/
theorem own_neX {w : World} {B b : Nat} {v : Value} {xs : List ByteArray} {cs : List Value} (h : OwnC strC w B 9 1 v xs) (hA : Arr w b 27 cs) : ∀ g, v.ownBlock = some g → b ≠ g := by
  intro g hg e
  subst e
  rcases h.2 with ⟨h0, _⟩ | ⟨g', cap, cur, h1, h2, h3, h4⟩
  · rw [h0] at hg; cases hg
  · rw [h1] at hg
    injection hg with hg
    have hg : g' = b := hg
    subst hg
    unfold Arr at hA
    rw [h3] at hA
    injection hA with hA
    injection hA with _ hA
    cases hA
/-- Another row is marked. -/
theorem OutX.mark {b B B2 B3 : Nat} {W W2 : World} {R : BoL} {p : Option Addr} {k : Nat} {v : Value} {xs : List ByteArray} (h : OutX b B W R p k) (hF : MFrame B3 v W W2) (hv : OwnC strC W B2 9 1 v xs)
    (hne : ∀ a g, v.ownBlock = some a → (Value.slice p R.l.length k).ownBlock = some g → g ≠ a) : OutX b B W2 R p k := ⟨hF.arr h.1 (own_neX hv h.1), mown_frameX hF h.2 hne⟩
end Go.Proofs.Ytpjmcpfmnlfmdaa
