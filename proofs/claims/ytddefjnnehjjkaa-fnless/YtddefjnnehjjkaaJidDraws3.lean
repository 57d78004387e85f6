/- What DrawMatches answers: any two addresses whose parts have at most 40 bytes. -/
import Derived.Test.YtddefjnnehjjkaaJidDraws2
namespace Go.Proofs.Ytddefjnnehjjkaa
set_option linter.unusedSimpArgs false
set_option linter.unusedVariables false
open Go.RowKit

/-- Six stores into two blocks that are not below B. -/
theorem below_six {B g h : Nat} {w w1 : World} (hb : Below B w w1) (hg : B ≤ g) (hh : B ≤ h) (a b c x y z : Value) :
    Below B w ((((((w1.setCell ⟨g, 0, none⟩ a).setCell ⟨g, 1, none⟩ b).setCell ⟨g, 2, none⟩ c).setCell ⟨h, 0, none⟩ x).setCell ⟨h, 1, none⟩ y).setCell ⟨h, 2, none⟩ z) :=
  below_three (below_three hb hg a b c) hh x y z

theorem arr_drew {W : World} {b t : Nat} {cs : List Value} (h : Arr W b t cs) : Arr W.drew b t cs := by unfold Arr at h ⊢; exact h
theorem two_stored {w W : World} {l d r x y z : ByteArray} (hA0 : ∃ a b c, Arr W w.heap.size 24 [a, b, c]) (hA1 : ∃ a b c, Arr W (w.heap.size + 1) 24 [a, b, c]) :
    Arr ((((((W.setCell ⟨w.heap.size, 0, none⟩ (.string l)).setCell ⟨w.heap.size, 1, none⟩ (.string d)).setCell ⟨w.heap.size, 2, none⟩ (.string r)).setCell ⟨w.heap.size + 1, 0, none⟩ (.string x)).setCell ⟨w.heap.size + 1, 1, none⟩ (.string y)).setCell ⟨w.heap.size + 1, 2, none⟩ (.string z)).drew w.heap.size 24 [.string l, .string d, .string r] ∧
    Arr ((((((W.setCell ⟨w.heap.size, 0, none⟩ (.string l)).setCell ⟨w.heap.size, 1, none⟩ (.string d)).setCell ⟨w.heap.size, 2, none⟩ (.string r)).setCell ⟨w.heap.size + 1, 0, none⟩ (.string x)).setCell ⟨w.heap.size + 1, 1, none⟩ (.string y)).setCell ⟨w.heap.size + 1, 2, none⟩ (.string z)).drew (w.heap.size + 1) 24 [.string x, .string y, .string z] := by
  obtain ⟨a, b, c, h0⟩ := hA0
  obtain ⟨a', b', c', h1⟩ := hA1
  refine ⟨arr_drew (arr_far (arr_far (arr_far (((h0.put 0 (.string l)).put 1 (.string d)).put 2 (.string r)) (w.heap.size + 1) 0 (.string x) (by omega)) (w.heap.size + 1) 1 (.string y) (by omega)) (w.heap.size + 1) 2 (.string z) (by omega)),
    arr_drew ((((arr_far (arr_far (arr_far h1 w.heap.size 0 (.string l) (by omega)) w.heap.size 1 (.string d) (by omega)) w.heap.size 2 (.string r) (by omega)).put 0 (.string x)).put 1 (.string y)).put 2 (.string z))⟩
set_option maxRecDepth 100000 in
set_option maxHeartbeats 4000000 in
theorem draw_matches (a : Option Addr) (len cap : Nat) (w : World) (hlen : len ≤ 1048576) (hrow : SrcRow w w.heap.size a len) :
    Calls Try.prog 26 #[.slice a len cap] w fun e w' => (∃ v, e = .returned v ∧ JidTwo v) ∧ Below w.heap.size w w' := by
  have HR := Lib.hid hrow
  clear hrow
  go_enter Try.func26, Try.ntmps26
  go_wp2_with fail
  refine (src_sourceB w.heap.size a len cap _ hlen (by simp; omega) (srcRow_alloc (srcRow_alloc HR.out _) _)).mono ?_
  rintro e w1 ⟨rfl, hS1, hb1⟩
  obtain ⟨hA0, hA1, hb2⟩ := bare_kept hb1
  have hz1 := hb1.size
  simp only [World.size_alloc] at hz1 hS1 ⊢
  have hb3 := below_one hb2
  clear hb1 hb2
  go_wp2_with fail
  refine (src_jid _ _ _ hS1).mono ?_
  rintro e w2 ⟨_, rfl, ⟨l, d, r, rfl, hl, hd, hr⟩, hS2, hg2⟩
  have hgl := hS1.lt
  replace hA0 := hA0.other hg2 (fun e => by injection e; omega)
  replace hA1 := hA1.other hg2 (fun e => by injection e; omega)
  have hz2 := hg2.size
  replace hb3 := below_grown hb3 (by omega) hg2 (by omega)
  clear hS1 hg2
  go_wp2_with fail
  refine (src_jid _ _ _ (hS2.alloc _)).mono ?_
  rintro e w3 ⟨_, rfl, ⟨x, y, z, rfl, hx, hy, hz⟩, hS3, hg3⟩
  replace hA0 := (arr_alloc hA0 _).other hg3 (fun e => by injection e; omega)
  replace hA1 := (arr_alloc hA1 _).other hg3 (fun e => by injection e; omega)
  have hJ := (Arr.fresh w2 24 [.string l, .string d, .string r]).other hg3 (fun e => by injection e; omega)
  have hz3 := hg3.size
  rw [World.size_alloc] at hz3
  replace hb3 := below_grown (hb3.alloc (by omega) _) (by simp; omega) hg3 (by omega)
  clear hS2 hg3
  go_wp2_with fail
  refine (src_one _ _ 2 _ (by omega) (hS3.alloc _)).mono ?_
  rintro e w4 ⟨_, rfl, ⟨q, rfl⟩, hS4, hg4⟩
  replace hA0 := (arr_alloc hA0 _).other hg4 (fun e => by injection e; omega)
  replace hA1 := (arr_alloc hA1 _).other hg4 (fun e => by injection e; omega)
  replace hJ := (arr_alloc hJ _).other hg4 (fun e => by injection e; omega)
  have hK := (Arr.fresh w3 24 [.string x, .string y, .string z]).other hg4 (fun e => by injection e; omega)
  have hz4 := hg4.size
  rw [World.size_alloc] at hz4
  replace hb3 := below_grown (hb3.alloc (by omega) _) (by simp; omega) hg4 (by omega)
  clear hS3 hg4
  have n1 : w2.heap.size ≠ w.heap.size := by omega
  have n2 : w2.heap.size ≠ w.heap.size + 1 := by omega
  have n3 : w3.heap.size ≠ w.heap.size := by omega
  have n4 : w3.heap.size ≠ w.heap.size + 1 := by omega
  have n5 : w3.heap.size ≠ w2.heap.size := by omega
  cases q
  · clear hS4
    obtain ⟨a0, a1, a2, f0, f1, f2⟩ := arr_three hA0
    obtain ⟨b0, b1, b2, g0, g1, g2⟩ := arr_three hA1
    obtain ⟨c0, c1, c2, _, _, _⟩ := arr_three hJ
    obtain ⟨d0, d1, d2, o0, o1, o2⟩ := arr_three hK
    have hT := two_stored (l := l) (d := d) (r := r) (x := x) (y := y) (z := z) ⟨_, _, _, hA0⟩ ⟨_, _, _, hA1⟩
    have HT := Lib.hid hT
    have HB := Lib.hid (below_six hb3 (Nat.le_refl _) (Nat.le_succ _) (.string l) (.string d) (.string r) (.string x) (.string y) (.string z)).drew
    clear hA0 hA1 hJ hK hT
    go_wp2
    go_region
    obtain ⟨hB0, hB1⟩ := HT.out
    have z0 := arr_lt hB0
    have z1 := arr_lt hB1
    obtain ⟨p0, p1, p2, _, _, _⟩ := arr_three hB0
    obtain ⟨s0, s1, s2, _, _, _⟩ := arr_three hB1
    go_wp2
    exact bodyPost_ret (v := .tuple #[.agg #[.string l, .string d, .string r], .agg #[.string x, .string y, .string z]]) (by simp [results, Try.results26, go_sem, p0, p1, p2, s0, s1, s2, cell_drew, size_drew] at z0 z1 p0 p1 p2 s0 s1 s2 ⊢; try omega) rfl ⟨⟨_, rfl, ⟨l, d, r, x, y, z, rfl, ⟨hl, hd, hr⟩, hx, hy, hz⟩⟩, HB.out⟩
  · have c1' := (arr_three hJ).2.1
    have d1' := (arr_three hK).2.1
    have o1' := (arr_three hK).2.2.2.2.1
    go_wp2_with fail
    refine (src_one _ _ 2 _ (by omega) (hS4.set w3.heap.size 1 (.string d) (by omega) (by omega))).mono ?_
    rintro e w5 ⟨_, rfl, ⟨q, rfl⟩, hS5, hg5⟩
    replace hA0 := (arr_far hA0 w3.heap.size 1 (.string d) (by omega)).other hg5 (fun e => by injection e; omega)
    replace hA1 := (arr_far hA1 w3.heap.size 1 (.string d) (by omega)).other hg5 (fun e => by injection e; omega)
    replace hJ := (arr_far hJ w3.heap.size 1 (.string d) (by omega)).other hg5 (fun e => by injection e; omega)
    replace hK : Arr w5 w3.heap.size 24 [.string x, .string d, .string z] := (hK.put 1 (.string d)).other hg5 (fun e => by injection e; omega)
    replace hb3 := below_grown (hb3.setCell (p := ⟨w3.heap.size, 1, none⟩) (by show w.heap.size ≤ w3.heap.size; omega) (.string d)) (by simp [World.setCell]; omega) hg5 (by omega)
    clear c1' d1' o1' hS4 hg5 hS5
    cases q
    · skip
      obtain ⟨a0, a1, a2, f0, f1, f2⟩ := arr_three hA0
      obtain ⟨b0, b1, b2, g0, g1, g2⟩ := arr_three hA1
      obtain ⟨c0, c1, c2, _, _, _⟩ := arr_three hJ
      obtain ⟨d0, d1, d2, o0, o1, o2⟩ := arr_three hK
      have hT := two_stored (l := l) (d := d) (r := r) (x := x) (y := d) (z := z) ⟨_, _, _, hA0⟩ ⟨_, _, _, hA1⟩
      have HT := Lib.hid hT
      have HB := Lib.hid (below_six hb3 (Nat.le_refl _) (Nat.le_succ _) (.string l) (.string d) (.string r) (.string x) (.string d) (.string z)).drew
      clear hA0 hA1 hJ hK hT
      go_wp2
      go_region
      obtain ⟨hB0, hB1⟩ := HT.out
      have z0 := arr_lt hB0
      have z1 := arr_lt hB1
      obtain ⟨p0, p1, p2, _, _, _⟩ := arr_three hB0
      obtain ⟨s0, s1, s2, _, _, _⟩ := arr_three hB1
      go_wp2
      exact bodyPost_ret (v := .tuple #[.agg #[.string l, .string d, .string r], .agg #[.string x, .string d, .string z]]) (by simp [results, Try.results26, go_sem, p0, p1, p2, s0, s1, s2, cell_drew, size_drew] at z0 z1 p0 p1 p2 s0 s1 s2 ⊢; try omega) rfl ⟨⟨_, rfl, ⟨l, d, r, x, d, z, rfl, ⟨hl, hd, hr⟩, hx, hd, hz⟩⟩, HB.out⟩
    · have e0 := (arr_three hJ).1
      have e1 := (arr_three hK).1
      have e2 := (arr_three hK).2.2.2.1
      have hA0' := arr_far hA0 w3.heap.size 0 (.string l) (by omega)
      have hA1' := arr_far hA1 w3.heap.size 0 (.string l) (by omega)
      have hJ' := arr_far hJ w3.heap.size 0 (.string l) (by omega)
      have hK' : Arr (w5.setCell ⟨w3.heap.size, 0, none⟩ (.string l)) w3.heap.size 24 [.string l, .string d, .string z] := hK.put 0 (.string l)
      have hb3' := hb3.setCell (p := ⟨w3.heap.size, 0, none⟩) (by show w.heap.size ≤ w3.heap.size; omega) (.string l)
      go_wp2
      obtain ⟨W6, hW6⟩ : ∃ W6, W6 = w5.setCell ⟨w3.heap.size, 0, none⟩ (.string l) := ⟨_, rfl⟩
      rw [← hW6] at hA0' hA1' hJ' hK' hb3' ⊢
      clear hW6 hA0 hA1 hJ hK hb3 e0 e1 e2
      have hA0 := hA0'
      have hA1 := hA1'
      have hJ := hJ'
      have hK := hK'
      have hb3 := hb3'
      clear hA0' hA1' hJ' hK' hb3'
      obtain ⟨a0, a1, a2, f0, f1, f2⟩ := arr_three hA0
      obtain ⟨b0, b1, b2, g0, g1, g2⟩ := arr_three hA1
      obtain ⟨c0, c1, c2, _, _, _⟩ := arr_three hJ
      obtain ⟨d0, d1, d2, o0, o1, o2⟩ := arr_three hK
      have hT := two_stored (l := l) (d := d) (r := r) (x := l) (y := d) (z := z) ⟨_, _, _, hA0⟩ ⟨_, _, _, hA1⟩
      have HT := Lib.hid hT
      have HB := Lib.hid (below_six hb3 (Nat.le_refl _) (Nat.le_succ _) (.string l) (.string d) (.string r) (.string l) (.string d) (.string z)).drew
      clear hA0 hA1 hJ hK hT
      go_region
      obtain ⟨hB0, hB1⟩ := HT.out
      have z0 := arr_lt hB0
      have z1 := arr_lt hB1
      obtain ⟨p0, p1, p2, _, _, _⟩ := arr_three hB0
      obtain ⟨s0, s1, s2, _, _, _⟩ := arr_three hB1
      go_wp2
      exact bodyPost_ret (v := .tuple #[.agg #[.string l, .string d, .string r], .agg #[.string l, .string d, .string z]]) (by simp [results, Try.results26, go_sem, p0, p1, p2, s0, s1, s2, cell_drew, size_drew] at z0 z1 p0 p1 p2 s0 s1 s2 ⊢; try omega) rfl ⟨⟨_, rfl, ⟨l, d, r, l, d, z, rfl, ⟨hl, hd, hr⟩, hl, hd, hz⟩⟩, HB.out⟩
end Go.Proofs.Ytddefjnnehjjkaa
