/- The small functions of the laws on answers with a dialback: comparison, marks. -/
import Derived.Test.YtpbogdfgomfpjaaDoorDbFnS
import Derived.Test.YtpbogdfgomfpjaaDoorDbLaw
import Derived.Test.YtpbogdfgomfpjaaDoorRwPeer
namespace Go.Proofs.YtpbogdfgomfpjaaDoor
set_option linter.unusedSimpArgs false
set_option linter.unusedVariables false
open Go.RowKit Go.Joins

def doC (R : DoR) (p : Option Addr) (k : Nat) : List Value := [.string R.d, .int .i64 R.n, .slice p R.ps.length k, .int .i64 R.i, .int .i64 R.c]
theorem two_do {w w1 : World} {cs ds : List Value} {t : Nat} (h : Below ((w.alloc (.cells cs.toArray t)).alloc (.cells ds.toArray t)).heap.size ((w.alloc (.cells cs.toArray t)).alloc (.cells ds.toArray t)) w1) :
    Arr w1 w.heap.size t cs ∧ Arr w1 (w.heap.size + 1) t ds ∧ Below w.heap.size w w1 := by
  have h2 := Arr.fresh (w.alloc (.cells cs.toArray t)) t ds
  rw [World.size_alloc] at h2
  exact ⟨(h.block _ (by simp; omega)).trans (arr_alloc (Arr.fresh w t cs) _), (h.block _ (by simp)).trans h2, ((((Below.refl _ _).alloc (Nat.le_refl _) _).alloc (by simp) _)).trans (h.mono (by simp; omega))⟩
set_option maxRecDepth 100000 in
set_option maxHeartbeats 400000 in
theorem eq_out (R : DoR) (p q : Option Addr) (k l : Nat) (w : World) (hn : R.ps.length ≤ 2000000) (hp : RowC prC 4 w p R.ps) (hq : RowC prC 4 w q R.ps) :
    Calls Tryd.prog 33 #[doV R.d R.n p R.ps.length k R.i R.c, doV R.d R.n q R.ps.length l R.i R.c] w fun e w' => e = .returned (.bool true) ∧ Below w.heap.size w w' := by
  have i1 := fun W hp hq => eq_db R.d R.n R.ps p q k l W hn hp hq
  have HK := Lib.hid (fun w1 (h : Below ((w.alloc (.cells (doC R p k).toArray 36)).alloc (.cells (doC R q l).toArray 36)).heap.size ((w.alloc (.cells (doC R p k).toArray 36)).alloc (.cells (doC R q l).toArray 36)) w1) => two_do h)
  have HP := Lib.hid (hp.on (((Below.refl _ _).alloc (Nat.le_refl _) (.cells (doC R p k).toArray 36)).alloc (by simp) (.cells (doC R q l).toArray 36)))
  have HQ := Lib.hid (hq.on (((Below.refl _ _).alloc (Nat.le_refl _) (.cells (doC R p k).toArray 36)).alloc (by simp) (.cells (doC R q l).toArray 36)))
  clear hp hq
  unfold dbV at i1
  unfold doV
  go_enter Tryd.func33, Tryd.ntmps33
  go_wp2_with (go_at_call 34; go_fit (i1 _ HP.out HQ.out); rintro e w1 ⟨rfl, hb1⟩; obtain ⟨hA, hB, hb⟩ := HK.out _ hb1; obtain ⟨⟨c0, c1, c2, c3, c4⟩, _⟩ := arr_five hA; obtain ⟨⟨d0, d1, d2, d3, d4⟩, _⟩ := arr_five hB; clear hA hB hb1)
  go_ret
  exact ⟨rfl, hb⟩
set_option maxHeartbeats 400000 in
theorem mark_db (d : ByteArray) (n : Int) (xs : List PrL) (p : Option Addr) (k B : Nat) (w : World) (hn : xs.length ≤ 2000000) (hB : B ≤ w.heap.size) (h : OwnC prC w B 50 4 (.slice p xs.length k) xs) :
    Calls Tryd.prog 35 #[dbV d n p xs.length k, .int .i64 1] w fun e w' => e = .returned (.int .i64 (1 + xs.length * 4)) ∧ MOwn mk_pr 1 B 50 4 (.slice p xs.length k) xs.length w' ∧ MFrame B (.slice p xs.length k) w w' := by
  have i1 := fun W (hB : B ≤ W.heap.size) h => marks_pr prC B 1 (.slice p xs.length k) xs W (by decide) (by decide) hn hB h
  have HO := Lib.hid h
  clear h
  unfold dbV
  go_enter Tryd.func35, Tryd.ntmps35
  go_wp2_with (go_at_call 67; go_fit (i1 _ (by simp; omega) (HO.out.alloc _)); rintro e w1 ⟨rfl, hM, hF⟩)
  go_ret
  refine ⟨rfl, hM, ((Below.refl B w).alloc hB _).trans hF.1, Nat.le_trans (by simp) hF.2.1, fun x hx hne => ?_⟩
  rw [hF.2.2 x (by simp; omega) hne]
  exact heap_alloc_old w _ hx
set_option maxHeartbeats 400000 in
theorem mark_out (R : DoR) (p : Option Addr) (k B : Nat) (w : World) (hn : R.ps.length ≤ 2000000) (hB : B ≤ w.heap.size) (h : OwnC prC w B 50 4 (.slice p R.ps.length k) R.ps) :
    Calls Tryd.prog 36 #[doV R.d R.n p R.ps.length k R.i R.c, .int .i64 1] w fun e w' => e = .returned (.int .i64 (1 + R.ps.length * 4)) ∧ MOwn mk_pr 1 B 50 4 (.slice p R.ps.length k) R.ps.length w' ∧ MFrame B (.slice p R.ps.length k) w w' := by
  have i1 := fun W (hB : B ≤ W.heap.size) h => mark_db R.d R.n R.ps p k B W hn hB h
  have HO := Lib.hid h
  clear h
  unfold dbV at i1
  unfold doV
  go_enter Tryd.func36, Tryd.ntmps36
  go_wp2_with (go_at_call 35; go_fit (i1 _ (by simp; omega) (HO.out.alloc _)); rintro e w1 ⟨rfl, hM, hF⟩)
  go_ret
  refine ⟨rfl, hM, ((Below.refl B w).alloc hB _).trans hF.1, Nat.le_trans (by simp) hF.2.1, fun x hx hne => ?_⟩
  rw [hF.2.2 x (by simp; omega) hne]
  exact heap_alloc_old w _ hx
set_option maxHeartbeats 400000 in
theorem held_db (d : ByteArray) (n : Int) (p : Option Addr) (m k B : Nat) (w : World) (hn : m ≤ 2000000) (h : MOwn mk_pr 1 B 50 4 (.slice p m k) m w) :
    Calls Tryd.prog 68 #[dbV d n p m k, .int .i64 1] w fun e w' => e = .returned (.int .i64 (1 + m * 4)) ∧ Below w.heap.size w w' := by
  have i1 := fun W h => helds_pr B 1 m (.slice p m k) W (by decide) (by decide) hn h
  have HO := Lib.hid h
  have hpos : ¬ ((1 : Int) + m * 4 < 0) := by omega
  clear h
  unfold dbV
  go_enter Tryd.func68, Tryd.ntmps68
  go_wp2_with (go_at_call 90; go_fit (i1 _ (HO.out.on ((Below.refl _ _).alloc (Nat.le_refl _) _))); rintro e w1 ⟨rfl, hb⟩)
  go_ret
  exact ⟨rfl, below_one hb⟩
set_option maxHeartbeats 400000 in
theorem held_out (R : DoR) (p : Option Addr) (k B : Nat) (w : World) (hn : R.ps.length ≤ 2000000) (h : MOwn mk_pr 1 B 50 4 (.slice p R.ps.length k) R.ps.length w) :
    Calls Tryd.prog 37 #[doV R.d R.n p R.ps.length k R.i R.c, .int .i64 1] w fun e w' => e = .returned (.int .i64 (1 + R.ps.length * 4)) ∧ Below w.heap.size w w' := by
  have i1 := fun W h => held_db R.d R.n p R.ps.length k B W hn h
  have HO := Lib.hid h
  have hpos : ¬ ((1 : Int) + R.ps.length * 4 < 0) := by omega
  clear h
  unfold dbV at i1
  unfold doV
  go_enter Tryd.func37, Tryd.ntmps37
  go_wp2_with (go_at_call 68; go_fit (i1 _ (HO.out.on ((Below.refl _ _).alloc (Nat.le_refl _) _))); rintro e w1 ⟨rfl, hb⟩)
  go_ret
  exact ⟨rfl, below_one hb⟩
theorem MFrame.own {α : Type} {enc : α → List Value} {B B2 e size : Nat} {v u : Value} {xs : List α} {w W : World} (h : MFrame B v w W) (ho : OwnC enc w B2 e size u xs) (hne : ∀ a b, v.ownBlock = some a → u.ownBlock = some b → b ≠ a) : OwnC enc W B2 e size u xs := by
  refine ⟨ho.1, ?_⟩
  rcases ho.2 with h0 | ⟨g, cap, cur, h1, h2, h3, h4⟩
  · exact .inl h0
  · refine .inr ⟨g, cap, cur, h1, h2, (h.2.2 g (Array.getElem?_eq_some_iff.1 h3).1 (fun a ha => hne a g ha (by rw [h1]; rfl))).trans h3, h4⟩
theorem DBox.mark {w W W2 : World} {c : List Value} {B : Nat} {v : Value} (h : DBox w W c) (hF : MFrame B v W W2) (hB : w.heap.size < B) : DBox w W2 c := ⟨arr_keep h.1 hF.1 hB, h.2.trans (hF.1.mono (Nat.le_of_lt hB))⟩
/-- An answer in a box of the law's. -/
def OutB (b B : Nat) (W : World) (R : DoR) (p : Option Addr) (k : Nat) : Prop := Arr W b 36 (doC R p k) ∧ OwnC prC W B 50 4 (.slice p R.ps.length k) R.ps
theorem OutB.on {b B : Nat} {W W2 : World} {R : DoR} {p : Option Addr} {k : Nat} (h : OutB b B W R p k) (hb : Below W.heap.size W W2) : OutB b B W2 R p k := ⟨arr_below h.1 hb, h.2.on hb⟩
theorem OutB.new {B : Nat} {W : World} {R : DoR} {p : Option Addr} {k : Nat} (h : OwnC prC W B 50 4 (.slice p R.ps.length k) R.ps) : OutB W.heap.size B (W.alloc (.cells (doC R p k).toArray 36)) R p k := ⟨Arr.fresh W _ _, h.alloc _⟩
/-- What lies lower than the marked row stays. -/
theorem OutB.low {b B B2 : Nat} {W W2 : World} {R : DoR} {p : Option Addr} {k : Nat} {v2 : Value} (h : OutB b B W R p k) (hF : MFrame B2 v2 W W2) (hb : b < B2) (hv : ∀ g, (Value.slice p R.ps.length k).ownBlock = some g → g < B2) : OutB b B W2 R p k := by
  refine ⟨arr_keep h.1 hF.1 hb, h.2.1, ?_⟩
  rcases h.2.2 with h0 | ⟨g, cap, cur, h1, h2, h3, h4⟩
  · exact .inl h0
  · refine .inr ⟨g, cap, cur, h1, h2, (hF.1.block g (hv g ?_)).trans h3, h4⟩
    rw [h1]
    rfl
/-- The argument's copy in a box. -/
def CopB (b B : Nat) (W : World) (d : ByteArray) (n : Int) (ps : List PrL) (p : Option Addr) (m k : Nat) : Prop := Arr W b 32 [.string d, .int .i64 n, .slice p m k] ∧ OwnC prC W B 50 4 (.slice p m k) ps
theorem CopB.on {b B : Nat} {W W2 : World} {d : ByteArray} {n : Int} {ps : List PrL} {p : Option Addr} {m k : Nat} (h : CopB b B W d n ps p m k) (hb : Below W.heap.size W W2) : CopB b B W2 d n ps p m k := ⟨arr_below h.1 hb, h.2.on hb⟩
theorem CopB.new {B : Nat} {W : World} {d : ByteArray} {n : Int} {ps : List PrL} {p : Option Addr} {m k : Nat} (h : OwnC prC W B 50 4 (.slice p m k) ps) : CopB W.heap.size B (W.alloc (.cells #[.string d, .int .i64 n, .slice p m k] 32)) d n ps p m k := ⟨Arr.fresh W _ [.string d, .int .i64 n, .slice p m k], h.alloc _⟩
end Go.Proofs.YtpbogdfgomfpjaaDoor
