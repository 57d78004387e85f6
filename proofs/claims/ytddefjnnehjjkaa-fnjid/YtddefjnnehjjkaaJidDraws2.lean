/- What DrawJidText, DrawJidLess and DrawMatches answer: any addresses whose parts have at most 40 bytes. -/
import Derived.Test.YtddefjnnehjjkaaJidDraws
import Derived.Deep.RegionHeld3
namespace Go.Proofs.Ytddefjnnehjjkaa
set_option linter.unusedSimpArgs false
set_option linter.unusedVariables false
open Go.RowKit

theorem below_grown {B g : Nat} {w w1 w2 : World} (hb : Below B w w1) (hB : B ≤ w1.heap.size) (hg : w1.grownBy w2 (some g)) (hg' : B ≤ g) : Below B w w2 :=
  hb.grown hg hB (fun k hk => by simp at hk; omega)
theorem srcRow_alloc {w : World} {B : Nat} {a : Option Addr} {len : Nat} (h : SrcRow w B a len) (o : Obj) : SrcRow (w.alloc o) B a len := by
  intro k hk
  obtain ⟨b, off, z, ha, hb, hc, h0, h1⟩ := h k hk
  exact ⟨b, off, z, ha, hb, (World.cell?_alloc_lt w o ⟨b, off + k, none⟩ (lt_of_cell hc)).trans hc, h0, h1⟩

set_option maxRecDepth 100000 in
set_option maxHeartbeats 2000000 in
theorem draw_jidtext (a : Option Addr) (len cap : Nat) (w : World) (hlen : len ≤ 1048576) (hrow : SrcRow w w.heap.size a len) :
    Calls Try.prog 11 #[.slice a len cap] w fun e w' => (∃ v, e = .returned v ∧ JidIn v) ∧ Below w.heap.size w w' := by
  have HR := Lib.hid hrow
  clear hrow
  go_enter Try.func11, Try.ntmps11
  go_wp2_with fail
  refine (src_sourceB w.heap.size a len cap _ hlen (by simp) (srcRow_alloc HR.out _)).mono ?_
  rintro e w1 ⟨rfl, hS1, hb1⟩
  have hR1 : Arr w1 w.heap.size 24 [.string ⟨#[]⟩, .string ⟨#[]⟩, .string ⟨#[]⟩] := arr_below (Arr.fresh w _ _) hb1
  have hz1 := hb1.size
  rw [World.size_alloc] at hz1
  replace hb1 := below_one hb1
  rw [World.size_alloc] at hS1
  simp only [World.size_alloc]
  go_wp2_with fail
  refine (src_jid _ _ _ hS1).mono ?_
  rintro e w2 ⟨_, rfl, ⟨l, d, r, rfl, hl, hd, hr⟩, hS2, hg2⟩
  have hR2 := hR1.other hg2 (fun e => by injection e; omega)
  have hz := arr_lt hR2
  have hb2 := below_grown hb1 (by omega) hg2 (by omega)
  obtain ⟨p0, p1, p2, f0, f1, f2⟩ := arr_three hR2
  clear hR1 hR2 hS1 hS2 hg2
  go_wp2
  exact bodyPost_ret (v := .agg #[.string l, .string d, .string r]) (by simp [results, Try.results11, go_sem, p0, p1, p2, hz]; try omega) rfl ⟨⟨_, rfl, ⟨l, d, r, rfl, hl, hd, hr⟩⟩, below_three hb2 (Nat.le_refl _) _ _ _⟩

theorem arr_far {w : World} {b t : Nat} {cs : List Value} (h : Arr w b t cs) (g i : Nat) (u : Value) (hne : b ≠ g) : Arr (w.setCell ⟨g, i, none⟩ u) b t cs := by
  unfold Arr at h ⊢
  rw [← h]
  exact Below.heap_setCell w ⟨g, i, none⟩ u b (by simpa using hne)
/-- Two addresses. -/
def JidTwo (v : Value) : Prop := ∃ l d r x y z : ByteArray, v = .tuple #[.agg #[.string l, .string d, .string r], .agg #[.string x, .string y, .string z]] ∧ (l.size ≤ 40 ∧ d.size ≤ 40 ∧ r.size ≤ 40) ∧ x.size ≤ 40 ∧ y.size ≤ 40 ∧ z.size ≤ 40
abbrev LessS (n g jb : Nat) (w : World) (l d r : ByteArray) (W : World) : Prop :=
  (W.cell? ⟨jb, 0, none⟩ = some (.string l) ∧ W.cell? ⟨jb, 1, none⟩ = some (.string d) ∧ W.cell? ⟨jb, 2, none⟩ = some (.string r) ∧
   W.cell? ⟨n, 0, none⟩ = some (cellAt W n 0) ∧ W.cell? ⟨n, 1, none⟩ = some (cellAt W n 1) ∧ W.cell? ⟨n, 2, none⟩ = some (cellAt W n 2) ∧
   W.cell? ⟨n + 1, 0, none⟩ = some (cellAt W (n + 1) 0) ∧ W.cell? ⟨n + 1, 1, none⟩ = some (cellAt W (n + 1) 1) ∧ W.cell? ⟨n + 1, 2, none⟩ = some (cellAt W (n + 1) 2) ∧
   W.frozen? ⟨n, 0, none⟩ = false ∧ W.frozen? ⟨n, 1, none⟩ = false ∧ W.frozen? ⟨n, 2, none⟩ = false ∧
   W.frozen? ⟨n + 1, 0, none⟩ = false ∧ W.frozen? ⟨n + 1, 1, none⟩ = false ∧ W.frozen? ⟨n + 1, 2, none⟩ = false) ∧
  (Src W n g ∧ Below n w W ∧ Arr W jb 24 [.string l, .string d, .string r] ∧ Res W n ∧ Res W (n + 1) ∧ n + 1 < g ∧ g < jb ∧ n ≤ W.heap.size)
theorem lessS {n g jb : Nat} {w W : World} {l d r : ByteArray} (h : Src W n g ∧ Below n w W ∧ Arr W jb 24 [.string l, .string d, .string r] ∧ Res W n ∧ Res W (n + 1) ∧ n + 1 < g ∧ g < jb ∧ n ≤ W.heap.size) : LessS n g jb w l d r W := by
  obtain ⟨c0, c1, c2, _, _, _⟩ := arr_three h.2.2.1
  obtain ⟨a, b, c, hR⟩ := h.2.2.2.1
  obtain ⟨a', b', c', hR'⟩ := h.2.2.2.2.1
  have e : ∀ k i v, W.cell? ⟨k, i, none⟩ = some v → W.cell? ⟨k, i, none⟩ = some (cellAt W k i) := fun k i v h => by unfold cellAt; rw [h]; rfl
  exact ⟨⟨c0, c1, c2, e n 0 a (hR.cell 0), e n 1 b (hR.cell 1), e n 2 c (hR.cell 2), e _ 0 a' (hR'.cell 0), e _ 1 b' (hR'.cell 1), e _ 2 c' (hR'.cell 2), hR.free 0, hR.free 1, hR.free 2, hR'.free 0, hR'.free 1, hR'.free 2⟩, h⟩
theorem res_other {W W' : World} {n g : Nat} (h : Res W n) (hg : W.grownBy W' (some g)) (hne : n ≠ g) : Res W' n := by
  obtain ⟨a, b, c, hA⟩ := h
  exact ⟨a, b, c, hA.other hg (fun e => hne (by injection e; omega))⟩
theorem lessS_call {n g jb : Nat} {w W W' : World} {l d r : ByteArray} {S : Prop} (h : S ∧ (Src W n g ∧ Below n w W ∧ Arr W jb 24 [.string l, .string d, .string r] ∧ Res W n ∧ Res W (n + 1) ∧ n + 1 < g ∧ g < jb ∧ n ≤ W.heap.size))
    (hS : Src W' n g) (hg : W.grownBy W' (some g)) : LessS n g jb w l d r W' := by
  obtain ⟨_, _, h2, h3, h4, h5, h6, h7, h8⟩ := h
  exact lessS ⟨hS, below_grown h2 h8 hg (by omega), h3.other hg (fun e => by injection e; omega), res_other h4 hg (by omega), res_other h5 hg (by omega), h6, h7, Nat.le_trans h8 hg.size⟩
theorem src_jid_held {B g : Nat} {W : World} {S P : Prop} (h : S ∧ (Src W B g ∧ P)) : Calls Try.prog 33 #[.pointer (some ⟨g, 0, none⟩)] W (Drew B g W JidIn) := src_jid B g W h.2.1
theorem lessS_store1 {n g jb : Nat} {w W : World} {l d r : ByteArray} {S : Prop} {x y z : Value} (h : S ∧ (Src W n g ∧ Below n w W ∧ Arr W jb 24 [.string l, .string d, .string r] ∧ Res W n ∧ Res W (n + 1) ∧ n + 1 < g ∧ g < jb ∧ n ≤ W.heap.size)) :
    LessS n g jb w l d r (((W.setCell ⟨n, 0, none⟩ x).setCell ⟨n, 1, none⟩ y).setCell ⟨n, 2, none⟩ z) := by
  obtain ⟨_, h1, h2, h3, h4, ⟨a, b, c, h5⟩, h6, h7, h8⟩ := h
  obtain ⟨a', b', c', h4'⟩ := h4
  refine lessS ⟨?_, below_three h2 (Nat.le_refl _) x y z, arr_far (arr_far (arr_far h3 _ _ _ (by omega)) _ _ _ (by omega)) _ _ _ (by omega), ⟨x, y, z, ((h4'.put 0 x).put 1 y).put 2 z⟩, ⟨a, b, c, arr_far (arr_far (arr_far h5 _ _ _ (by omega)) _ _ _ (by omega)) _ _ _ (by omega)⟩, h6, h7, by simpa [World.setCell] using h8⟩
  exact ((h1.set n 0 x (by omega) (Nat.le_refl _)).set n 1 y (by omega) (Nat.le_refl _)).set n 2 z (by omega) (Nat.le_refl _)
theorem lessS_store2 {n g jb : Nat} {w W : World} {l d r : ByteArray} {S : Prop} {x y z : Value} (h : S ∧ (Src W n g ∧ Below n w W ∧ Arr W jb 24 [.string l, .string d, .string r] ∧ Res W n ∧ Res W (n + 1) ∧ n + 1 < g ∧ g < jb ∧ n ≤ W.heap.size)) :
    LessS n g jb w l d r (((W.setCell ⟨n + 1, 0, none⟩ x).setCell ⟨n + 1, 1, none⟩ y).setCell ⟨n + 1, 2, none⟩ z) := by
  obtain ⟨_, h1, h2, h3, ⟨a, b, c, h4⟩, h5, h6, h7, h8⟩ := h
  obtain ⟨a', b', c', h5'⟩ := h5
  refine lessS ⟨?_, below_three h2 (Nat.le_succ _) x y z, arr_far (arr_far (arr_far h3 _ _ _ (by omega)) _ _ _ (by omega)) _ _ _ (by omega), ⟨a, b, c, arr_far (arr_far (arr_far h4 _ _ _ (by omega)) _ _ _ (by omega)) _ _ _ (by omega)⟩, ⟨x, y, z, ((h5'.put 0 x).put 1 y).put 2 z⟩, h6, h7, by simpa [World.setCell] using h8⟩
  exact ((h1.set (n + 1) 0 x (by omega) (Nat.le_succ _)).set (n + 1) 1 y (by omega) (Nat.le_succ _)).set (n + 1) 2 z (by omega) (Nat.le_succ _)

set_option maxRecDepth 100000 in
set_option maxHeartbeats 4000000 in
theorem draw_jidless (a : Option Addr) (len cap : Nat) (w : World) (hlen : len ≤ 1048576) (hrow : SrcRow w w.heap.size a len) :
    Calls Try.prog 22 #[.slice a len cap] w fun e w' => (∃ v, e = .returned v ∧ JidTwo v) ∧ Below w.heap.size w w' := by
  have HR := Lib.hid hrow
  clear hrow
  go_enter Try.func22, Try.ntmps22
  go_wp2_with fail
  refine (src_sourceB w.heap.size a len cap _ hlen (by simp; omega) (srcRow_alloc (srcRow_alloc HR.out _) _)).mono ?_
  rintro e w1 ⟨rfl, hS1, hb1⟩
  obtain ⟨hA0, hA1, hb2⟩ := bare_kept hb1
  have hz1 := hb1.size
  simp only [World.size_alloc] at hz1 hS1 ⊢
  have hb3 := below_one hb2
  clear hb1 hb2
  go_wp2_with fail
  refine (src_jid _ _ _ hS1).mono ?_
  rintro e w2 ⟨_, rfl, ⟨l, d, r, rfl, hl, hd, hr⟩, hS2, hg2⟩
  have hgl := hS1.lt
  replace hA0 := hA0.other hg2 (fun e => by injection e; omega)
  replace hA1 := hA1.other hg2 (fun e => by injection e; omega)
  have hz2 := hg2.size
  have hb4 := below_grown hb3 (by omega) hg2 (by omega)
  have hI : LessS w.heap.size (w.heap.size + 1 + 1) w2.heap.size w l d r (w2.alloc (.cells #[.string l, .string d, .string r] 24)).drew :=
    lessS ⟨hS2.alloc _, (hb4.alloc (by omega) _).drew, Arr.fresh w2 _ _, ⟨_, _, _, arr_alloc hA0 _⟩, ⟨_, _, _, arr_alloc hA1 _⟩, by omega, by omega, by show w.heap.size ≤ (w2.alloc _).heap.size; simp; omega⟩
  have HI := Lib.hid hI
  clear hI hS1 hS2 hg2 hA0 hA1 hb3 hb4
  go_wp2_with fail
  go_region_held3 (fun W => (W.cell? ⟨w2.heap.size, 0, none⟩ = some (.string l) ∧ W.cell? ⟨w2.heap.size, 1, none⟩ = some (.string d) ∧ W.cell? ⟨w2.heap.size, 2, none⟩ = some (.string r) ∧
   W.cell? ⟨w.heap.size, 0, none⟩ = some (cellAt W w.heap.size 0) ∧ W.cell? ⟨w.heap.size, 1, none⟩ = some (cellAt W w.heap.size 1) ∧ W.cell? ⟨w.heap.size, 2, none⟩ = some (cellAt W w.heap.size 2) ∧
   W.cell? ⟨w.heap.size + 1, 0, none⟩ = some (cellAt W (w.heap.size + 1) 0) ∧ W.cell? ⟨w.heap.size + 1, 1, none⟩ = some (cellAt W (w.heap.size + 1) 1) ∧ W.cell? ⟨w.heap.size + 1, 2, none⟩ = some (cellAt W (w.heap.size + 1) 2) ∧
   W.frozen? ⟨w.heap.size, 0, none⟩ = false ∧ W.frozen? ⟨w.heap.size, 1, none⟩ = false ∧ W.frozen? ⟨w.heap.size, 2, none⟩ = false ∧
   W.frozen? ⟨w.heap.size + 1, 0, none⟩ = false ∧ W.frozen? ⟨w.heap.size + 1, 1, none⟩ = false ∧ W.frozen? ⟨w.heap.size + 1, 2, none⟩ = false) ∧
  (Src W w.heap.size (w.heap.size + 1 + 1) ∧ Below w.heap.size w W ∧ Arr W w2.heap.size 24 [.string l, .string d, .string r] ∧ Res W w.heap.size ∧ Res W (w.heap.size + 1) ∧ w.heap.size + 1 < w.heap.size + 1 + 1 ∧ w.heap.size + 1 + 1 < w2.heap.size ∧ w.heap.size ≤ W.heap.size))
    (with_reducible first | assumption | exact HI.out | exact lessS_call (by assumption) hSN hgN | exact lessS_store1 (by assumption) | exact lessS_store2 (by assumption))
    (first
      | (go_at_call 33; go_fit (src_jid_held (by assumption)); rintro e w3 ⟨_, rfl, ⟨x, y, z, rfl, hx, hy, hz⟩, hSN, hgN⟩; have hF := (lessS_call (by assumption) hSN hgN).2))
  all_goals
    obtain ⟨_, hb5, _, ⟨u0, u1, u2, hA0⟩, ⟨v0, v1, v2, hA1⟩, _, _, _⟩ := hF
    have hB0 : Arr _ w.heap.size 24 [.string l, .string d, .string r] := arr_far (arr_far (arr_far (((hA0.put 0 (.string l)).put 1 (.string d)).put 2 (.string r)) (w.heap.size + 1) 0 (.string x) (by omega)) (w.heap.size + 1) 1 (.string y) (by omega)) (w.heap.size + 1) 2 (.string z) (by omega)
    have hB1 : Arr _ (w.heap.size + 1) 24 [.string x, .string y, .string z] := (((arr_far (arr_far (arr_far hA1 w.heap.size 0 (.string l) (by omega)) w.heap.size 1 (.string d) (by omega)) w.heap.size 2 (.string r) (by omega)).put 0 (.string x)).put 1 (.string y)).put 2 (.string z)
    have HBel := Lib.hid (below_three (below_three hb5 (Nat.le_refl _) (.string l) (.string d) (.string r)) (Nat.le_succ _) (.string x) (.string y) (.string z))
    have z0 := arr_lt hB0
    have z1 := arr_lt hB1
    obtain ⟨c0, c1, c2, _, _, _⟩ := arr_three hB0
    obtain ⟨d0, d1, d2, _, _, _⟩ := arr_three hB1
    clear hA0 hA1 hB0 hB1 hb5 HI
    go_wp2
    exact bodyPost_ret (v := .tuple #[.agg #[.string l, .string d, .string r], .agg #[.string x, .string y, .string z]]) (by simp [results, Try.results22, go_sem, c0, c1, c2, d0, d1, d2] at z0 z1 ⊢; try omega) rfl ⟨⟨_, rfl, ⟨l, d, r, x, y, z, rfl, ⟨hl, hd, hr⟩, hx, hy, hz⟩⟩, HBel.out⟩
end Go.Proofs.Ytddefjnnehjjkaa
