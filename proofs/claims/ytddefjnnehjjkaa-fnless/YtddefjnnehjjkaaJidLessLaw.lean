/- FnLess's walk. -/
import Derived.Test.YtddefjnnehjjkaaJidDraws3
import Derived.Test.YtddefjnnehjjkaaJidLessMath
import Derived.Test.YtddefjnnehjjkaaJidHeld
import Derived.Deep.RegionHeld3
import Derived.Deep.RegionWith
namespace Go.Proofs.Ytddefjnnehjjkaa
set_option linter.unusedSimpArgs false
set_option linter.unusedVariables false
open Go.RowKit

theorem takeH {P : Program} {ops : Array Oper} {Q : Exit → Act → World → Prop} {md : Region.Mode} {S : World → Prop} {i k : Nat} {oi : Oper} {v : Value} {fuel : Nat} {listed : Array Bool} {a : Act} {w : World} (hi : ops[i]? = some oi) (hd : oi.dst = some k)
    (hs : Region.noSelect ops = true) (hf : Region.free md ops listed i = true) (hr : (Region.ready md ops listed).contains i = true) (hQ : ∀ c a w, Q (.panic c) (a.put (some k) v) w → Q (.panic c) a w)
    (hw : Region.wanted oi (yielded ops a.tmps) = true) (hv : ∀ w, S w → (execOp a.eval oi).run P w = .ok (.value v) w) (hS : S w) (h : wpAnyH P md ops Q S fuel (listed.setIfInBounds i true) (a.put (some k) v) w) : wpAnyH P md ops Q S (fuel + 1) listed a w := by
  rw [← hd] at hQ h
  exact wpAnyH_take hi hs hf hr hQ (Or.inl ⟨hw, hv⟩) hS h
theorem skipH {P : Program} {ops : Array Oper} {Q : Exit → Act → World → Prop} {md : Region.Mode} {S : World → Prop} {i k : Nat} {oi : Oper} {fuel : Nat} {listed : Array Bool} {a : Act} {w : World} (hi : ops[i]? = some oi) (hd : oi.dst = some k)
    (hs : Region.noSelect ops = true) (hf : Region.free md ops listed i = true) (hr : (Region.ready md ops listed).contains i = true) (hQ : ∀ c a w, Q (.panic c) (a.put (some k) undef) w → Q (.panic c) a w)
    (hw : Region.wanted oi (yielded ops a.tmps) = false) (hS : S w) (h : wpAnyH P md ops Q S fuel (listed.setIfInBounds i true) (a.put (some k) undef) w) : wpAnyH P md ops Q S (fuel + 1) listed a w := by
  rw [← hd] at hQ h
  exact wpAnyH_take hi hs hf hr hQ (Or.inr ⟨hw, rfl⟩) hS h
theorem six_cells {w w1 : World} {a b c x y z : Value} {t u : Nat} (h : Below ((w.alloc (.cells #[a, b, c] t)).alloc (.cells #[x, y, z] u)).heap.size ((w.alloc (.cells #[a, b, c] t)).alloc (.cells #[x, y, z] u)) w1) :
    (w1.cell? ⟨w.heap.size, 0, none⟩ = some a ∧ w1.cell? ⟨w.heap.size, 1, none⟩ = some b ∧ w1.cell? ⟨w.heap.size, 2, none⟩ = some c) ∧
    w1.cell? ⟨w.heap.size + 1, 0, none⟩ = some x ∧ w1.cell? ⟨w.heap.size + 1, 1, none⟩ = some y ∧ w1.cell? ⟨w.heap.size + 1, 2, none⟩ = some z := ⟨(six_kept h).1, (six_kept h).2.1⟩
theorem held_a {w W : World} {a b c x y z : Value} {t u : Nat} (h : Below ((w.alloc (.cells #[a, b, c] t)).alloc (.cells #[x, y, z] u)).heap.size ((w.alloc (.cells #[a, b, c] t)).alloc (.cells #[x, y, z] u)) W) :
    (W.cell? ⟨w.heap.size, 0, none⟩ = some a ∧ W.cell? ⟨w.heap.size, 1, none⟩ = some b ∧ W.cell? ⟨w.heap.size, 2, none⟩ = some c) ∧ Below ((w.alloc (.cells #[a, b, c] t)).alloc (.cells #[x, y, z] u)).heap.size ((w.alloc (.cells #[a, b, c] t)).alloc (.cells #[x, y, z] u)) W :=
  ⟨(six_kept h).1, h⟩
set_option maxRecDepth 100000 in
set_option maxHeartbeats 40000000 in
/-- The law from its first call behind the draw on. -/
theorem less_law (a0 : Option Addr) (len0 cap0 : Nat) (a1 : Option Addr) (len1 cap1 : Nat) (w : World) (h0 : len0 ≤ 1048576) (h1 : len1 ≤ 1048576) (r0 : SrcRow w w.heap.size a0 len0) (r1 : SrcRow w w.heap.size a1 len1) (hm : MaxL w) :
    Calls Try.prog 4 #[.slice a0 len0 cap0, .slice a1 len1 cap1] w fun e w' => e = .returned (.bool true) ∧ Below w.heap.size w w' := by
  have R0 := Lib.hid r0
  have R1 := Lib.hid r1
  clear r0 r1
  go_enter Try.func4, Try.ntmps4
  go_wp2_with fail
  refine (draw_jidless a0 len0 cap0 _ h0 R0.out).mono ?_
  rintro e w1 ⟨⟨_, rfl, l, d, r, x, y, z, rfl, ⟨hl, hd, hr⟩, hx, hy, hz⟩, hbw⟩
  have xl : l.size ≤ maxLen := by unfold maxLen; omega
  have xd : d.size ≤ maxLen := by unfold maxLen; omega
  have xr : r.size ≤ maxLen := by unfold maxLen; omega
  have xx : x.size ≤ maxLen := by unfold maxLen; omega
  have xy : y.size ≤ maxLen := by unfold maxLen; omega
  have xz : z.size ≤ maxLen := by unfold maxLen; omega
  have xe : (⟨#[]⟩ : ByteArray).size ≤ maxLen := by unfold maxLen; decide
  have hmw := hm.below hbw hm.pos
  have HM := Lib.hid (fun W (h : Below ((w1.alloc (.cells #[.string l, .string d, .string r] 24)).alloc (.cells #[.string x, .string y, .string z] 24)).heap.size ((w1.alloc (.cells #[.string l, .string d, .string r] 24)).alloc (.cells #[.string x, .string y, .string z] 24)) W) => hmw.below (below_one (below_one h)) hmw.pos)
  have HK := Lib.hid (fun W (h : Below ((w1.alloc (.cells #[.string l, .string d, .string r] 24)).alloc (.cells #[.string x, .string y, .string z] 24)).heap.size ((w1.alloc (.cells #[.string l, .string d, .string r] 24)).alloc (.cells #[.string x, .string y, .string z] 24)) W) => six_cells h)
  have hb : Below ((w1.alloc (.cells #[.string l, .string d, .string r] 24)).alloc (.cells #[.string x, .string y, .string z] 24)).heap.size ((w1.alloc (.cells #[.string l, .string d, .string r] 24)).alloc (.cells #[.string x, .string y, .string z] 24)) ((w1.alloc (.cells #[.string l, .string d, .string r] 24)).alloc (.cells #[.string x, .string y, .string z] 24)) := Below.refl _ _
  have f1 := fun w => impl_less l d r x y z w xl xd xr xx xy xz
  have f2 := fun w => impl_less x y z l d r w xx xy xz xl xd xr
  have f3 := fun w => spec_less l d r x y z w xl xd xr xx xy xz
  have f4 := fun w => spec_less x y z l d r w xx xy xz xl xd xr
  have f5 := fun w => spec_right l d r w xl xd xr
  have f6 := fun w => spec_right x y z w xx xy xz
  have f7 := fun w => impl_less l d r l d r w xl xd xr xl xd xr
  rw [lessJ_self] at f7
  have f8 := fun w => impl_match l d r l d r w xl xd xr xl xd xr
  have f9 := fun w => impl_bare l d r w xl xd xr
  have f10 := fun w => impl_match l d ⟨#[]⟩ l d r w xl xd xe xl xd xr
  obtain ⟨e1, q1⟩ : ∃ v, (l.toList == x.toList) = v := ⟨_, rfl⟩
  obtain ⟨e2, q2⟩ : ∃ v, (d.toList == y.toList) = v := ⟨_, rfl⟩
  obtain ⟨e3, q3⟩ : ∃ v, (r.toList == z.toList) = v := ⟨_, rfl⟩
  obtain ⟨b1, p1⟩ : ∃ v, jidB l d r = v := ⟨_, rfl⟩
  obtain ⟨b2, p2⟩ : ∃ v, jidB x y z = v := ⟨_, rfl⟩
  obtain ⟨X, pX⟩ : ∃ v, lessJ l d r x y z = v := ⟨_, rfl⟩
  obtain ⟨Y, pY⟩ : ∃ v, lessJ x y z l d r = v := ⟨_, rfl⟩
  have hXY : (b1 && b2) = false ∧ X = false ∧ Y = false ∨ b1 = true ∧ b2 = true ∧ (X || Y) = !(e1 && e2 && e3) ∧ (X && Y) = false := by
    rw [← p1, ← p2, ← pX, ← pY, ← q1, ← q2, ← q3]
    cases hr1 : jidB l d r <;> cases hr2 : jidB x y z
    · exact .inl ⟨rfl, lessJ_wrong (by rw [hr1, hr2]; rfl), lessJ_wrong (by rw [hr1, hr2]; rfl)⟩
    · exact .inl ⟨rfl, lessJ_wrong (by rw [hr1, hr2]; rfl), lessJ_wrong (by rw [hr1, hr2]; rfl)⟩
    · exact .inl ⟨rfl, lessJ_wrong (by rw [hr1, hr2]; rfl), lessJ_wrong (by rw [hr1, hr2]; rfl)⟩
    · exact .inr ⟨rfl, rfl, lessJ_one hr1 hr2⟩
  have hMa : b1 = true → matchJ l d r l d r = true ∧ matchJ l d ⟨#[]⟩ l d r = true ∧ bareV l d r = .agg #[.string l, .string d, .string ⟨#[]⟩] := fun h => by
    rw [h] at p1
    exact ⟨matchJ_self p1, matchJ_bare p1, bareV_yes p1⟩
  rw [pX] at f1 f3
  rw [pY] at f2 f4
  rw [p1] at f5
  rw [p2] at f6
  clear pX pY p1 p2 xl xd xr xx xy xz xe
  have HMa := Lib.hid hMa
  clear hMa hl hd hr hx hy hz
  obtain ⟨⟨c0, c1, c2⟩, k0, k1, k2⟩ := HK.out _ hb
  rcases hXY with ⟨hbb, rfl, rfl⟩ | ⟨rfl, rfl, hor, hand⟩
  · cases b1
    · clear hbb
      go_wp2_with (first
        | (go_at_call 23; go_fit (f1 _ (HM.out _ hb)); rintro e wn ⟨rfl, hb2⟩; replace hb := hb.trans (hb2.mono hb.size); clear hb2; clear c0 c1 c2 k0 k1 k2; obtain ⟨⟨c0, c1, c2⟩, k0, k1, k2⟩ := HK.out _ hb)
        | (go_at_call 23; go_fit (f2 _ (HM.out _ hb)); rintro e wn ⟨rfl, hb2⟩; replace hb := hb.trans (hb2.mono hb.size); clear hb2; clear c0 c1 c2 k0 k1 k2; obtain ⟨⟨c0, c1, c2⟩, k0, k1, k2⟩ := HK.out _ hb)
        | (go_at_call 23; go_fit (f7 _ (HM.out _ hb)); rintro e wn ⟨rfl, hb2⟩; replace hb := hb.trans (hb2.mono hb.size); clear hb2; clear c0 c1 c2 k0 k1 k2; obtain ⟨⟨c0, c1, c2⟩, k0, k1, k2⟩ := HK.out _ hb)
        | (go_at_call 24; go_fit (f3 _); rintro e wn ⟨rfl, hb2⟩; replace hb := hb.trans (hb2.mono hb.size); clear hb2; clear c0 c1 c2 k0 k1 k2; obtain ⟨⟨c0, c1, c2⟩, k0, k1, k2⟩ := HK.out _ hb)
        | (go_at_call 24; go_fit (f4 _); rintro e wn ⟨rfl, hb2⟩; replace hb := hb.trans (hb2.mono hb.size); clear hb2; clear c0 c1 c2 k0 k1 k2; obtain ⟨⟨c0, c1, c2⟩, k0, k1, k2⟩ := HK.out _ hb)
        | (go_at_call 15; go_fit (f5 _); rintro e wn ⟨rfl, hb2⟩; replace hb := hb.trans (hb2.mono hb.size); clear hb2; clear c0 c1 c2 k0 k1 k2; obtain ⟨⟨c0, c1, c2⟩, k0, k1, k2⟩ := HK.out _ hb)
        | (go_at_call 15; go_fit (f6 _); rintro e wn ⟨rfl, hb2⟩; replace hb := hb.trans (hb2.mono hb.size); clear hb2; clear c0 c1 c2 k0 k1 k2; obtain ⟨⟨c0, c1, c2⟩, k0, k1, k2⟩ := HK.out _ hb))
      refine wp_region_held_drew (S := (fun W => (W.cell? ⟨w1.heap.size, 0, none⟩ = some (.string l) ∧ W.cell? ⟨w1.heap.size, 1, none⟩ = some (.string d) ∧ W.cell? ⟨w1.heap.size, 2, none⟩ = some (.string r)) ∧ Below ((w1.alloc (.cells #[.string l, .string d, .string r] 24)).alloc (.cells #[.string x, .string y, .string z] 24)).heap.size ((w1.alloc (.cells #[.string l, .string d, .string r] 24)).alloc (.cells #[.string x, .string y, .string z] 24)) W)) (by kernel_rfl) (held_a hb.drew) (fun hHeld => ?_)
      refine takeH (i := 0) (k := 71) (v := .agg #[.string l, .string d, .string r]) rfl (by rfl) (by kernel_rfl) (by kernel_rfl) (by kernel_rfl) (fun _ _ _ h => h) (by rfl) ?_ hHeld ?_
      · intro w hSw
        (try dsimp only at hSw)
        go_simp
      (try simp only [Act.put, List.setIfInBounds_toArray, List.set_cons_zero, List.set_cons_succ])
      refine wpAnyH_ready (rs := [1]) (by kernel_rfl) (by simp) ?_
      refine AllReadyH.cons rfl (fun K hK => ?_) AllReadyH.nil
      rw [if_pos (by rfl)]
      go_simp
      go_fit (f5 _)
      rintro e wm ⟨rfl, hb2⟩
      have hbN := held_on hHeld hb2
      clear hb2
      refine hK.out _ _ (held_a hbN) (fun hHeld => ?_)
      clear hK K
      (try simp only [Act.put, List.setIfInBounds_toArray, List.set_cons_zero, List.set_cons_succ])
      refine takeH (i := 2) (k := 73) (v := .bool false) rfl (by rfl) (by kernel_rfl) (by kernel_rfl) (by kernel_rfl) (fun _ _ _ h => h) (by rfl) ?_ hHeld ?_
      · intro w hSw
        (try dsimp only at hSw)
        go_simp
      (try simp only [Act.put, List.setIfInBounds_toArray, List.set_cons_zero, List.set_cons_succ])
      refine skipH (i := 3) (k := 74) rfl (by rfl) (by kernel_rfl) (by kernel_rfl) (by kernel_rfl) (fun _ _ _ h => h) (by rfl) hHeld ?_
      (try simp only [Act.put, List.setIfInBounds_toArray, List.set_cons_zero, List.set_cons_succ])
      refine skipH (i := 4) (k := 75) rfl (by rfl) (by kernel_rfl) (by kernel_rfl) (by kernel_rfl) (fun _ _ _ h => h) (by rfl) hHeld ?_
      (try simp only [Act.put, List.setIfInBounds_toArray, List.set_cons_zero, List.set_cons_succ])
      refine skipH (i := 5) (k := 76) rfl (by rfl) (by kernel_rfl) (by kernel_rfl) (by kernel_rfl) (fun _ _ _ h => h) (by rfl) hHeld ?_
      (try simp only [Act.put, List.setIfInBounds_toArray, List.set_cons_zero, List.set_cons_succ])
      refine skipH (i := 6) (k := 77) rfl (by rfl) (by kernel_rfl) (by kernel_rfl) (by kernel_rfl) (fun _ _ _ h => h) (by rfl) hHeld ?_
      (try simp only [Act.put, List.setIfInBounds_toArray, List.set_cons_zero, List.set_cons_succ])
      refine skipH (i := 7) (k := 78) rfl (by rfl) (by kernel_rfl) (by kernel_rfl) (by kernel_rfl) (fun _ _ _ h => h) (by rfl) hHeld ?_
      (try simp only [Act.put, List.setIfInBounds_toArray, List.set_cons_zero, List.set_cons_succ])
      refine skipH (i := 8) (k := 79) rfl (by rfl) (by kernel_rfl) (by kernel_rfl) (by kernel_rfl) (fun _ _ _ h => h) (by rfl) hHeld ?_
      (try simp only [Act.put, List.setIfInBounds_toArray, List.set_cons_zero, List.set_cons_succ])
      refine skipH (i := 9) (k := 80) rfl (by rfl) (by kernel_rfl) (by kernel_rfl) (by kernel_rfl) (fun _ _ _ h => h) (by rfl) hHeld ?_
      (try simp only [Act.put, List.setIfInBounds_toArray, List.set_cons_zero, List.set_cons_succ])
      refine skipH (i := 10) (k := 81) rfl (by rfl) (by kernel_rfl) (by kernel_rfl) (by kernel_rfl) (fun _ _ _ h => h) (by rfl) hHeld ?_
      (try simp only [Act.put, List.setIfInBounds_toArray, List.set_cons_zero, List.set_cons_succ])
      refine skipH (i := 11) (k := 82) rfl (by rfl) (by kernel_rfl) (by kernel_rfl) (by kernel_rfl) (fun _ _ _ h => h) (by rfl) hHeld ?_
      (try simp only [Act.put, List.setIfInBounds_toArray, List.set_cons_zero, List.set_cons_succ])
      refine skipH (i := 12) (k := 83) rfl (by rfl) (by kernel_rfl) (by kernel_rfl) (by kernel_rfl) (fun _ _ _ h => h) (by rfl) hHeld ?_
      (try simp only [Act.put, List.setIfInBounds_toArray, List.set_cons_zero, List.set_cons_succ])
      refine skipH (i := 13) (k := 84) rfl (by rfl) (by kernel_rfl) (by kernel_rfl) (by kernel_rfl) (fun _ _ _ h => h) (by rfl) hHeld ?_
      (try simp only [Act.put, List.setIfInBounds_toArray, List.set_cons_zero, List.set_cons_succ])
      refine takeH (i := 14) (k := 85) (v := .bool false) rfl (by rfl) (by kernel_rfl) (by kernel_rfl) (by kernel_rfl) (fun _ _ _ h => h) (by rfl) ?_ hHeld ?_
      · intro w hSw
        (try dsimp only at hSw)
        go_simp
      (try simp only [Act.put, List.setIfInBounds_toArray, List.set_cons_zero, List.set_cons_succ])
      refine wpAnyH_done (by kernel_rfl) ?_ _
      have hbT : Below w.heap.size w wm := hbw.trans ((below_one (below_one hbN)).mono hbw.size)
      clear hbN hHeld f1 f2 f3 f4 f5 f6 f7 f8 f9 f10 HM HK q1 q2 q3
      go_wp2_with fail
      refine (draw_matches a1 len1 cap1 _ h1 (R1.out.lift hbT hbT.size)).mono ?_
      rintro e w2 ⟨⟨_, rfl, pl, pd, pr, jl, jd, jr, rfl, ⟨hl, hd, hr⟩, hx, hy, hz⟩, hbd⟩
      have hb2w := hbT.trans (hbd.mono hbT.size)
      have hm2 := hm.below hb2w hm.pos
      have HM2 := Lib.hid (fun W (h : Below ((w2.alloc (.cells #[.string pl, .string pd, .string pr] 24)).alloc (.cells #[.string jl, .string jd, .string jr] 24)).heap.size ((w2.alloc (.cells #[.string pl, .string pd, .string pr] 24)).alloc (.cells #[.string jl, .string jd, .string jr] 24)) W) => hm2.below (below_one (below_one h)) hm2.pos)
      have y1 : pl.size ≤ maxLen := by unfold maxLen; omega
      have y2 : pd.size ≤ maxLen := by unfold maxLen; omega
      have y3 : pr.size ≤ maxLen := by unfold maxLen; omega
      have y4 : jl.size ≤ maxLen := by unfold maxLen; omega
      have y5 : jd.size ≤ maxLen := by unfold maxLen; omega
      have y6 : jr.size ≤ maxLen := by unfold maxLen; omega
      have g1 := fun w => impl_match pl pd pr jl jd jr w y1 y2 y3 y4 y5 y6
      have g2 := fun w => spec_match pl pd pr jl jd jr w y1 y2 y3 y4 y5 y6
      obtain ⟨m, pm⟩ : ∃ v, matchJ pl pd pr jl jd jr = v := ⟨_, rfl⟩
      rw [pm] at g1 g2
      clear hbT hbd hm2 y1 y2 y3 y4 y5 y6 hl hd hr hx hy hz
      cases m
      · clear pm
        go_wp2
        refine wp_region_held_drew (S := (fun W => (W.cell? ⟨w2.heap.size, 0, none⟩ = some (.string pl) ∧ W.cell? ⟨w2.heap.size, 1, none⟩ = some (.string pd) ∧ W.cell? ⟨w2.heap.size, 2, none⟩ = some (.string pr) ∧ W.cell? ⟨w2.heap.size + 1, 0, none⟩ = some (.string jl) ∧ W.cell? ⟨w2.heap.size + 1, 1, none⟩ = some (.string jd) ∧ W.cell? ⟨w2.heap.size + 1, 2, none⟩ = some (.string jr)) ∧ Below ((w2.alloc (.cells #[.string pl, .string pd, .string pr] 24)).alloc (.cells #[.string jl, .string jd, .string jr] 24)).heap.size ((w2.alloc (.cells #[.string pl, .string pd, .string pr] 24)).alloc (.cells #[.string jl, .string jd, .string jr] 24)) W)) (by kernel_rfl) (held_six (Below.refl _ _).drew) (fun hHeld => ?_)
        refine takeH (i := 0) (k := 91) (v := .agg #[.string pl, .string pd, .string pr]) rfl (by rfl) (by kernel_rfl) (by kernel_rfl) (by kernel_rfl) (fun _ _ _ h => h) (by rfl) ?_ hHeld ?_
        · intro w hSw
          (try dsimp only at hSw)
          go_simp
        (try simp only [Act.put, List.setIfInBounds_toArray, List.set_cons_zero, List.set_cons_succ])
        refine takeH (i := 1) (k := 92) (v := .agg #[.string jl, .string jd, .string jr]) rfl (by rfl) (by kernel_rfl) (by kernel_rfl) (by kernel_rfl) (fun _ _ _ h => h) (by rfl) ?_ hHeld ?_
        · intro w hSw
          (try dsimp only at hSw)
          go_simp
        (try simp only [Act.put, List.setIfInBounds_toArray, List.set_cons_zero, List.set_cons_succ])
        refine takeH (i := 3) (k := 94) (v := .agg #[.string pl, .string pd, .string pr]) rfl (by rfl) (by kernel_rfl) (by kernel_rfl) (by kernel_rfl) (fun _ _ _ h => h) (by rfl) ?_ hHeld ?_
        · intro w hSw
          (try dsimp only at hSw)
          go_simp
        (try simp only [Act.put, List.setIfInBounds_toArray, List.set_cons_zero, List.set_cons_succ])
        refine takeH (i := 4) (k := 95) (v := .agg #[.string jl, .string jd, .string jr]) rfl (by rfl) (by kernel_rfl) (by kernel_rfl) (by kernel_rfl) (fun _ _ _ h => h) (by rfl) ?_ hHeld ?_
        · intro w hSw
          (try dsimp only at hSw)
          go_simp
        (try simp only [Act.put, List.setIfInBounds_toArray, List.set_cons_zero, List.set_cons_succ])
        refine wpAnyH_ready (rs := [2]) (by kernel_rfl) (by simp) ?_
        refine AllReadyH.cons rfl (fun K hK => ?_) AllReadyH.nil
        rw [if_pos (by rfl)]
        go_simp
        go_fit (g1 _ (HM2.out _ hHeld.2))
        rintro e wm ⟨rfl, hb2⟩
        have hbM := held_on hHeld hb2
        clear hb2
        refine hK.out _ _ (held_six hbM) (fun hHeld => ?_)
        clear hK K
        (try simp only [Act.put, List.setIfInBounds_toArray, List.set_cons_zero, List.set_cons_succ])
        refine wpAnyH_ready (rs := [5]) (by kernel_rfl) (by simp) ?_
        refine AllReadyH.cons rfl (fun K hK => ?_) AllReadyH.nil
        rw [if_pos (by rfl)]
        go_simp
        go_fit (g2 _)
        rintro e wm ⟨rfl, hb2⟩
        have hbM := held_on hHeld hb2
        clear hb2
        refine hK.out _ _ (held_six hbM) (fun hHeld => ?_)
        clear hK K
        (try simp only [Act.put, List.setIfInBounds_toArray, List.set_cons_zero, List.set_cons_succ])
        refine takeH (i := 6) (k := 97) (v := .bool true) rfl (by rfl) (by kernel_rfl) (by kernel_rfl) (by kernel_rfl) (fun _ _ _ h => h) (by rfl) ?_ hHeld ?_
        · intro w hSw
          (try dsimp only at hSw)
          go_simp
        (try simp only [Act.put, List.setIfInBounds_toArray, List.set_cons_zero, List.set_cons_succ])
        refine takeH (i := 7) (k := 98) (v := .bool true) rfl (by rfl) (by kernel_rfl) (by kernel_rfl) (by kernel_rfl) (fun _ _ _ h => h) (by rfl) ?_ hHeld ?_
        · intro w hSw
          (try dsimp only at hSw)
          go_simp
        (try simp only [Act.put, List.setIfInBounds_toArray, List.set_cons_zero, List.set_cons_succ])
        refine takeH (i := 8) (k := 99) (v := .agg #[.string pl, .string pd, .string pr]) rfl (by rfl) (by kernel_rfl) (by kernel_rfl) (by kernel_rfl) (fun _ _ _ h => h) (by rfl) ?_ hHeld ?_
        · intro w hSw
          (try dsimp only at hSw)
          go_simp
        (try simp only [Act.put, List.setIfInBounds_toArray, List.set_cons_zero, List.set_cons_succ])
        refine takeH (i := 9) (k := 100) (v := .agg #[.string jl, .string jd, .string jr]) rfl (by rfl) (by kernel_rfl) (by kernel_rfl) (by kernel_rfl) (fun _ _ _ h => h) (by rfl) ?_ hHeld ?_
        · intro w hSw
          (try dsimp only at hSw)
          go_simp
        (try simp only [Act.put, List.setIfInBounds_toArray, List.set_cons_zero, List.set_cons_succ])
        refine wpAnyH_ready (rs := [10]) (by kernel_rfl) (by simp) ?_
        refine AllReadyH.cons rfl (fun K hK => ?_) AllReadyH.nil
        rw [if_pos (by rfl)]
        go_simp
        go_fit (g1 _ (HM2.out _ hHeld.2))
        rintro e wm ⟨rfl, hb2⟩
        have hbM := held_on hHeld hb2
        clear hb2
        refine hK.out _ _ (held_six hbM) (fun hHeld => ?_)
        clear hK K
        (try simp only [Act.put, List.setIfInBounds_toArray, List.set_cons_zero, List.set_cons_succ])
        refine takeH (i := 11) (k := 102) (v := .bool true) rfl (by rfl) (by kernel_rfl) (by kernel_rfl) (by kernel_rfl) (fun _ _ _ h => h) (by rfl) ?_ hHeld ?_
        · intro w hSw
          (try dsimp only at hSw)
          go_simp
        (try simp only [Act.put, List.setIfInBounds_toArray, List.set_cons_zero, List.set_cons_succ])
        refine takeH (i := 12) (k := 103) (v := .bool true) rfl (by rfl) (by kernel_rfl) (by kernel_rfl) (by kernel_rfl) (fun _ _ _ h => h) (by rfl) ?_ hHeld ?_
        · intro w hSw
          (try dsimp only at hSw)
          go_simp
        (try simp only [Act.put, List.setIfInBounds_toArray, List.set_cons_zero, List.set_cons_succ])
        refine skipH (i := 13) (k := 104) rfl (by rfl) (by kernel_rfl) (by kernel_rfl) (by kernel_rfl) (fun _ _ _ h => h) (by rfl) hHeld ?_
        (try simp only [Act.put, List.setIfInBounds_toArray, List.set_cons_zero, List.set_cons_succ])
        refine skipH (i := 14) (k := 105) rfl (by rfl) (by kernel_rfl) (by kernel_rfl) (by kernel_rfl) (fun _ _ _ h => h) (by rfl) hHeld ?_
        (try simp only [Act.put, List.setIfInBounds_toArray, List.set_cons_zero, List.set_cons_succ])
        refine skipH (i := 15) (k := 106) rfl (by rfl) (by kernel_rfl) (by kernel_rfl) (by kernel_rfl) (fun _ _ _ h => h) (by rfl) hHeld ?_
        (try simp only [Act.put, List.setIfInBounds_toArray, List.set_cons_zero, List.set_cons_succ])
        refine skipH (i := 16) (k := 107) rfl (by rfl) (by kernel_rfl) (by kernel_rfl) (by kernel_rfl) (fun _ _ _ h => h) (by rfl) hHeld ?_
        (try simp only [Act.put, List.setIfInBounds_toArray, List.set_cons_zero, List.set_cons_succ])
        refine skipH (i := 17) (k := 108) rfl (by rfl) (by kernel_rfl) (by kernel_rfl) (by kernel_rfl) (fun _ _ _ h => h) (by rfl) hHeld ?_
        (try simp only [Act.put, List.setIfInBounds_toArray, List.set_cons_zero, List.set_cons_succ])
        refine takeH (i := 18) (k := 109) (v := .bool true) rfl (by rfl) (by kernel_rfl) (by kernel_rfl) (by kernel_rfl) (fun _ _ _ h => h) (by rfl) ?_ hHeld ?_
        · intro w hSw
          (try dsimp only at hSw)
          go_simp
        (try simp only [Act.put, List.setIfInBounds_toArray, List.set_cons_zero, List.set_cons_succ])
        refine takeH (i := 19) (k := 110) (v := .bool true) rfl (by rfl) (by kernel_rfl) (by kernel_rfl) (by kernel_rfl) (fun _ _ _ h => h) (by rfl) ?_ hHeld ?_
        · intro w hSw
          (try dsimp only at hSw)
          go_simp
        (try simp only [Act.put, List.setIfInBounds_toArray, List.set_cons_zero, List.set_cons_succ])
        refine takeH (i := 20) (k := 4) (v := .bool true) rfl (by rfl) (by kernel_rfl) (by kernel_rfl) (by kernel_rfl) (fun _ _ _ h => h) (by rfl) ?_ hHeld ?_
        · intro w hSw
          (try dsimp only at hSw)
          go_simp
        (try simp only [Act.put, List.setIfInBounds_toArray, List.set_cons_zero, List.set_cons_succ])
        refine wpAnyH_done (by kernel_rfl) ?_ _
        go_wp2
        go_ret
        exact ⟨rfl, hb2w.trans ((below_one (below_one hbM)).mono hb2w.size)⟩
      · have hdm := matchJ_dom pm
        clear pm
        go_wp2
        go_region_held3 (fun W => (W.cell? ⟨w2.heap.size, 0, none⟩ = some (.string pl) ∧ W.cell? ⟨w2.heap.size, 1, none⟩ = some (.string pd) ∧ W.cell? ⟨w2.heap.size, 2, none⟩ = some (.string pr) ∧ W.cell? ⟨w2.heap.size + 1, 0, none⟩ = some (.string jl) ∧ W.cell? ⟨w2.heap.size + 1, 1, none⟩ = some (.string jd) ∧ W.cell? ⟨w2.heap.size + 1, 2, none⟩ = some (.string jr)) ∧ Below ((w2.alloc (.cells #[.string pl, .string pd, .string pr] 24)).alloc (.cells #[.string jl, .string jd, .string jr] 24)).heap.size ((w2.alloc (.cells #[.string pl, .string pd, .string pr] 24)).alloc (.cells #[.string jl, .string jd, .string jr] 24)) W)
          (with_reducible first | assumption | exact held_six hbM | exact held_six (Below.refl _ _).drew)
          (first
            | (go_at_call 25; go_fit (g1 _ (HM2.out _ (And.right (by assumption)))); rintro e wm ⟨rfl, hb2⟩; have hbM := held_on (by assumption) hb2)
            | (go_at_call 27; go_fit (g2 _); rintro e wm ⟨rfl, hb2⟩; have hbM := held_on (by assumption) hb2))
        all_goals
          go_wp2
          go_ret
          exact ⟨rfl, hb2w.trans ((below_one (below_one hbM)).mono hb2w.size)⟩
    · obtain rfl : b2 = false := by simpa using hbb
      clear hbb
      obtain ⟨m1, m2, m3⟩ := HMa.out rfl
      rw [m1] at f8
      rw [m3] at f9
      rw [m2] at f10
      clear m1 m2 m3
      go_wp2_with (first
        | (go_at_call 23; go_fit (f1 _ (HM.out _ hb)); rintro e wn ⟨rfl, hb2⟩; replace hb := hb.trans (hb2.mono hb.size); clear hb2; clear c0 c1 c2 k0 k1 k2; obtain ⟨⟨c0, c1, c2⟩, k0, k1, k2⟩ := HK.out _ hb)
        | (go_at_call 23; go_fit (f2 _ (HM.out _ hb)); rintro e wn ⟨rfl, hb2⟩; replace hb := hb.trans (hb2.mono hb.size); clear hb2; clear c0 c1 c2 k0 k1 k2; obtain ⟨⟨c0, c1, c2⟩, k0, k1, k2⟩ := HK.out _ hb)
        | (go_at_call 23; go_fit (f7 _ (HM.out _ hb)); rintro e wn ⟨rfl, hb2⟩; replace hb := hb.trans (hb2.mono hb.size); clear hb2; clear c0 c1 c2 k0 k1 k2; obtain ⟨⟨c0, c1, c2⟩, k0, k1, k2⟩ := HK.out _ hb)
        | (go_at_call 24; go_fit (f3 _); rintro e wn ⟨rfl, hb2⟩; replace hb := hb.trans (hb2.mono hb.size); clear hb2; clear c0 c1 c2 k0 k1 k2; obtain ⟨⟨c0, c1, c2⟩, k0, k1, k2⟩ := HK.out _ hb)
        | (go_at_call 24; go_fit (f4 _); rintro e wn ⟨rfl, hb2⟩; replace hb := hb.trans (hb2.mono hb.size); clear hb2; clear c0 c1 c2 k0 k1 k2; obtain ⟨⟨c0, c1, c2⟩, k0, k1, k2⟩ := HK.out _ hb)
        | (go_at_call 15; go_fit (f5 _); rintro e wn ⟨rfl, hb2⟩; replace hb := hb.trans (hb2.mono hb.size); clear hb2; clear c0 c1 c2 k0 k1 k2; obtain ⟨⟨c0, c1, c2⟩, k0, k1, k2⟩ := HK.out _ hb)
        | (go_at_call 15; go_fit (f6 _); rintro e wn ⟨rfl, hb2⟩; replace hb := hb.trans (hb2.mono hb.size); clear hb2; clear c0 c1 c2 k0 k1 k2; obtain ⟨⟨c0, c1, c2⟩, k0, k1, k2⟩ := HK.out _ hb))
      go_region_held3 (fun W => (W.cell? ⟨w1.heap.size, 0, none⟩ = some (.string l) ∧ W.cell? ⟨w1.heap.size, 1, none⟩ = some (.string d) ∧ W.cell? ⟨w1.heap.size, 2, none⟩ = some (.string r)) ∧ Below ((w1.alloc (.cells #[.string l, .string d, .string r] 24)).alloc (.cells #[.string x, .string y, .string z] 24)).heap.size ((w1.alloc (.cells #[.string l, .string d, .string r] 24)).alloc (.cells #[.string x, .string y, .string z] 24)) W)
        (with_reducible first | assumption | exact held_a hbN | exact held_a hb.drew)
        (first
          | (go_at_call 15; go_fit (f5 _); rintro e wm ⟨rfl, hb2⟩; have hbN := held_on (by assumption) hb2)
          | (go_at_call 25; go_fit (f8 _ (HM.out _ (And.right (by assumption)))); rintro e wm ⟨rfl, hb2⟩; have hbN := held_on (by assumption) hb2)
          | (go_at_call 16; go_fit (f9 _ (HM.out _ (And.right (by assumption)))); rintro e wm ⟨rfl, hb2⟩; have hbN := held_on (by assumption) hb2)
          | (go_at_call 25; go_fit (f10 _ (HM.out _ (And.right (by assumption)))); rintro e wm ⟨rfl, hb2⟩; have hbN := held_on (by assumption) hb2))
      all_goals
        have hbT : Below w.heap.size w wm := hbw.trans ((below_one (below_one hbN)).mono hbw.size)
        clear hbN f1 f2 f3 f4 f5 f6 f7 f8 f9 f10 HM HK q1 q2 q3
        go_wp2_with fail
        refine (draw_matches a1 len1 cap1 _ h1 (R1.out.lift hbT hbT.size)).mono ?_
        rintro e w2 ⟨⟨_, rfl, pl, pd, pr, jl, jd, jr, rfl, ⟨hl, hd, hr⟩, hx, hy, hz⟩, hbd⟩
        have hb2w := hbT.trans (hbd.mono hbT.size)
        have hm2 := hm.below hb2w hm.pos
        have HM2 := Lib.hid (fun W (h : Below ((w2.alloc (.cells #[.string pl, .string pd, .string pr] 24)).alloc (.cells #[.string jl, .string jd, .string jr] 24)).heap.size ((w2.alloc (.cells #[.string pl, .string pd, .string pr] 24)).alloc (.cells #[.string jl, .string jd, .string jr] 24)) W) => hm2.below (below_one (below_one h)) hm2.pos)
        have y1 : pl.size ≤ maxLen := by unfold maxLen; omega
        have y2 : pd.size ≤ maxLen := by unfold maxLen; omega
        have y3 : pr.size ≤ maxLen := by unfold maxLen; omega
        have y4 : jl.size ≤ maxLen := by unfold maxLen; omega
        have y5 : jd.size ≤ maxLen := by unfold maxLen; omega
        have y6 : jr.size ≤ maxLen := by unfold maxLen; omega
        have g1 := fun w => impl_match pl pd pr jl jd jr w y1 y2 y3 y4 y5 y6
        have g2 := fun w => spec_match pl pd pr jl jd jr w y1 y2 y3 y4 y5 y6
        obtain ⟨m, pm⟩ : ∃ v, matchJ pl pd pr jl jd jr = v := ⟨_, rfl⟩
        rw [pm] at g1 g2
        clear hbT hbd hm2 y1 y2 y3 y4 y5 y6 hl hd hr hx hy hz
        cases m
        · clear pm
          go_wp2
          refine wp_region_held_drew (S := (fun W => (W.cell? ⟨w2.heap.size, 0, none⟩ = some (.string pl) ∧ W.cell? ⟨w2.heap.size, 1, none⟩ = some (.string pd) ∧ W.cell? ⟨w2.heap.size, 2, none⟩ = some (.string pr) ∧ W.cell? ⟨w2.heap.size + 1, 0, none⟩ = some (.string jl) ∧ W.cell? ⟨w2.heap.size + 1, 1, none⟩ = some (.string jd) ∧ W.cell? ⟨w2.heap.size + 1, 2, none⟩ = some (.string jr)) ∧ Below ((w2.alloc (.cells #[.string pl, .string pd, .string pr] 24)).alloc (.cells #[.string jl, .string jd, .string jr] 24)).heap.size ((w2.alloc (.cells #[.string pl, .string pd, .string pr] 24)).alloc (.cells #[.string jl, .string jd, .string jr] 24)) W)) (by kernel_rfl) (held_six (Below.refl _ _).drew) (fun hHeld => ?_)
          refine takeH (i := 0) (k := 91) (v := .agg #[.string pl, .string pd, .string pr]) rfl (by rfl) (by kernel_rfl) (by kernel_rfl) (by kernel_rfl) (fun _ _ _ h => h) (by rfl) ?_ hHeld ?_
          · intro w hSw
            (try dsimp only at hSw)
            go_simp
          (try simp only [Act.put, List.setIfInBounds_toArray, List.set_cons_zero, List.set_cons_succ])
          refine takeH (i := 1) (k := 92) (v := .agg #[.string jl, .string jd, .string jr]) rfl (by rfl) (by kernel_rfl) (by kernel_rfl) (by kernel_rfl) (fun _ _ _ h => h) (by rfl) ?_ hHeld ?_
          · intro w hSw
            (try dsimp only at hSw)
            go_simp
          (try simp only [Act.put, List.setIfInBounds_toArray, List.set_cons_zero, List.set_cons_succ])
          refine takeH (i := 3) (k := 94) (v := .agg #[.string pl, .string pd, .string pr]) rfl (by rfl) (by kernel_rfl) (by kernel_rfl) (by kernel_rfl) (fun _ _ _ h => h) (by rfl) ?_ hHeld ?_
          · intro w hSw
            (try dsimp only at hSw)
            go_simp
          (try simp only [Act.put, List.setIfInBounds_toArray, List.set_cons_zero, List.set_cons_succ])
          refine takeH (i := 4) (k := 95) (v := .agg #[.string jl, .string jd, .string jr]) rfl (by rfl) (by kernel_rfl) (by kernel_rfl) (by kernel_rfl) (fun _ _ _ h => h) (by rfl) ?_ hHeld ?_
          · intro w hSw
            (try dsimp only at hSw)
            go_simp
          (try simp only [Act.put, List.setIfInBounds_toArray, List.set_cons_zero, List.set_cons_succ])
          refine wpAnyH_ready (rs := [2]) (by kernel_rfl) (by simp) ?_
          refine AllReadyH.cons rfl (fun K hK => ?_) AllReadyH.nil
          rw [if_pos (by rfl)]
          go_simp
          go_fit (g1 _ (HM2.out _ hHeld.2))
          rintro e wm ⟨rfl, hb2⟩
          have hbM := held_on hHeld hb2
          clear hb2
          refine hK.out _ _ (held_six hbM) (fun hHeld => ?_)
          clear hK K
          (try simp only [Act.put, List.setIfInBounds_toArray, List.set_cons_zero, List.set_cons_succ])
          refine wpAnyH_ready (rs := [5]) (by kernel_rfl) (by simp) ?_
          refine AllReadyH.cons rfl (fun K hK => ?_) AllReadyH.nil
          rw [if_pos (by rfl)]
          go_simp
          go_fit (g2 _)
          rintro e wm ⟨rfl, hb2⟩
          have hbM := held_on hHeld hb2
          clear hb2
          refine hK.out _ _ (held_six hbM) (fun hHeld => ?_)
          clear hK K
          (try simp only [Act.put, List.setIfInBounds_toArray, List.set_cons_zero, List.set_cons_succ])
          refine takeH (i := 6) (k := 97) (v := .bool true) rfl (by rfl) (by kernel_rfl) (by kernel_rfl) (by kernel_rfl) (fun _ _ _ h => h) (by rfl) ?_ hHeld ?_
          · intro w hSw
            (try dsimp only at hSw)
            go_simp
          (try simp only [Act.put, List.setIfInBounds_toArray, List.set_cons_zero, List.set_cons_succ])
          refine takeH (i := 7) (k := 98) (v := .bool true) rfl (by rfl) (by kernel_rfl) (by kernel_rfl) (by kernel_rfl) (fun _ _ _ h => h) (by rfl) ?_ hHeld ?_
          · intro w hSw
            (try dsimp only at hSw)
            go_simp
          (try simp only [Act.put, List.setIfInBounds_toArray, List.set_cons_zero, List.set_cons_succ])
          refine takeH (i := 8) (k := 99) (v := .agg #[.string pl, .string pd, .string pr]) rfl (by rfl) (by kernel_rfl) (by kernel_rfl) (by kernel_rfl) (fun _ _ _ h => h) (by rfl) ?_ hHeld ?_
          · intro w hSw
            (try dsimp only at hSw)
            go_simp
          (try simp only [Act.put, List.setIfInBounds_toArray, List.set_cons_zero, List.set_cons_succ])
          refine takeH (i := 9) (k := 100) (v := .agg #[.string jl, .string jd, .string jr]) rfl (by rfl) (by kernel_rfl) (by kernel_rfl) (by kernel_rfl) (fun _ _ _ h => h) (by rfl) ?_ hHeld ?_
          · intro w hSw
            (try dsimp only at hSw)
            go_simp
          (try simp only [Act.put, List.setIfInBounds_toArray, List.set_cons_zero, List.set_cons_succ])
          refine wpAnyH_ready (rs := [10]) (by kernel_rfl) (by simp) ?_
          refine AllReadyH.cons rfl (fun K hK => ?_) AllReadyH.nil
          rw [if_pos (by rfl)]
          go_simp
          go_fit (g1 _ (HM2.out _ hHeld.2))
          rintro e wm ⟨rfl, hb2⟩
          have hbM := held_on hHeld hb2
          clear hb2
          refine hK.out _ _ (held_six hbM) (fun hHeld => ?_)
          clear hK K
          (try simp only [Act.put, List.setIfInBounds_toArray, List.set_cons_zero, List.set_cons_succ])
          refine takeH (i := 11) (k := 102) (v := .bool true) rfl (by rfl) (by kernel_rfl) (by kernel_rfl) (by kernel_rfl) (fun _ _ _ h => h) (by rfl) ?_ hHeld ?_
          · intro w hSw
            (try dsimp only at hSw)
            go_simp
          (try simp only [Act.put, List.setIfInBounds_toArray, List.set_cons_zero, List.set_cons_succ])
          refine takeH (i := 12) (k := 103) (v := .bool true) rfl (by rfl) (by kernel_rfl) (by kernel_rfl) (by kernel_rfl) (fun _ _ _ h => h) (by rfl) ?_ hHeld ?_
          · intro w hSw
            (try dsimp only at hSw)
            go_simp
          (try simp only [Act.put, List.setIfInBounds_toArray, List.set_cons_zero, List.set_cons_succ])
          refine skipH (i := 13) (k := 104) rfl (by rfl) (by kernel_rfl) (by kernel_rfl) (by kernel_rfl) (fun _ _ _ h => h) (by rfl) hHeld ?_
          (try simp only [Act.put, List.setIfInBounds_toArray, List.set_cons_zero, List.set_cons_succ])
          refine skipH (i := 14) (k := 105) rfl (by rfl) (by kernel_rfl) (by kernel_rfl) (by kernel_rfl) (fun _ _ _ h => h) (by rfl) hHeld ?_
          (try simp only [Act.put, List.setIfInBounds_toArray, List.set_cons_zero, List.set_cons_succ])
          refine skipH (i := 15) (k := 106) rfl (by rfl) (by kernel_rfl) (by kernel_rfl) (by kernel_rfl) (fun _ _ _ h => h) (by rfl) hHeld ?_
          (try simp only [Act.put, List.setIfInBounds_toArray, List.set_cons_zero, List.set_cons_succ])
          refine skipH (i := 16) (k := 107) rfl (by rfl) (by kernel_rfl) (by kernel_rfl) (by kernel_rfl) (fun _ _ _ h => h) (by rfl) hHeld ?_
          (try simp only [Act.put, List.setIfInBounds_toArray, List.set_cons_zero, List.set_cons_succ])
          refine skipH (i := 17) (k := 108) rfl (by rfl) (by kernel_rfl) (by kernel_rfl) (by kernel_rfl) (fun _ _ _ h => h) (by rfl) hHeld ?_
          (try simp only [Act.put, List.setIfInBounds_toArray, List.set_cons_zero, List.set_cons_succ])
          refine takeH (i := 18) (k := 109) (v := .bool true) rfl (by rfl) (by kernel_rfl) (by kernel_rfl) (by kernel_rfl) (fun _ _ _ h => h) (by rfl) ?_ hHeld ?_
          · intro w hSw
            (try dsimp only at hSw)
            go_simp
          (try simp only [Act.put, List.setIfInBounds_toArray, List.set_cons_zero, List.set_cons_succ])
          refine takeH (i := 19) (k := 110) (v := .bool true) rfl (by rfl) (by kernel_rfl) (by kernel_rfl) (by kernel_rfl) (fun _ _ _ h => h) (by rfl) ?_ hHeld ?_
          · intro w hSw
            (try dsimp only at hSw)
            go_simp
          (try simp only [Act.put, List.setIfInBounds_toArray, List.set_cons_zero, List.set_cons_succ])
          refine takeH (i := 20) (k := 4) (v := .bool true) rfl (by rfl) (by kernel_rfl) (by kernel_rfl) (by kernel_rfl) (fun _ _ _ h => h) (by rfl) ?_ hHeld ?_
          · intro w hSw
            (try dsimp only at hSw)
            go_simp
          (try simp only [Act.put, List.setIfInBounds_toArray, List.set_cons_zero, List.set_cons_succ])
          refine wpAnyH_done (by kernel_rfl) ?_ _
          go_wp2
          go_ret
          exact ⟨rfl, hb2w.trans ((below_one (below_one hbM)).mono hb2w.size)⟩
        · have hdm := matchJ_dom pm
          clear pm
          go_wp2
          go_region_held3 (fun W => (W.cell? ⟨w2.heap.size, 0, none⟩ = some (.string pl) ∧ W.cell? ⟨w2.heap.size, 1, none⟩ = some (.string pd) ∧ W.cell? ⟨w2.heap.size, 2, none⟩ = some (.string pr) ∧ W.cell? ⟨w2.heap.size + 1, 0, none⟩ = some (.string jl) ∧ W.cell? ⟨w2.heap.size + 1, 1, none⟩ = some (.string jd) ∧ W.cell? ⟨w2.heap.size + 1, 2, none⟩ = some (.string jr)) ∧ Below ((w2.alloc (.cells #[.string pl, .string pd, .string pr] 24)).alloc (.cells #[.string jl, .string jd, .string jr] 24)).heap.size ((w2.alloc (.cells #[.string pl, .string pd, .string pr] 24)).alloc (.cells #[.string jl, .string jd, .string jr] 24)) W)
            (with_reducible first | assumption | exact held_six hbM | exact held_six (Below.refl _ _).drew)
            (first
              | (go_at_call 25; go_fit (g1 _ (HM2.out _ (And.right (by assumption)))); rintro e wm ⟨rfl, hb2⟩; have hbM := held_on (by assumption) hb2)
              | (go_at_call 27; go_fit (g2 _); rintro e wm ⟨rfl, hb2⟩; have hbM := held_on (by assumption) hb2))
          all_goals
            go_wp2
            go_ret
            exact ⟨rfl, hb2w.trans ((below_one (below_one hbM)).mono hb2w.size)⟩
  · obtain ⟨m1, m2, m3⟩ := HMa.out rfl
    rw [m1] at f8
    rw [m3] at f9
    rw [m2] at f10
    clear m1 m2 m3
    cases X <;> cases Y
    · obtain ⟨⟨rfl, rfl⟩, rfl⟩ : (e1 = true ∧ e2 = true) ∧ e3 = true := by simpa using hor
      clear hor hand
      go_wp2_with (first
        | (go_at_call 23; go_fit (f1 _ (HM.out _ hb)); rintro e wn ⟨rfl, hb2⟩; replace hb := hb.trans (hb2.mono hb.size); clear hb2; clear c0 c1 c2 k0 k1 k2; obtain ⟨⟨c0, c1, c2⟩, k0, k1, k2⟩ := HK.out _ hb)
        | (go_at_call 23; go_fit (f2 _ (HM.out _ hb)); rintro e wn ⟨rfl, hb2⟩; replace hb := hb.trans (hb2.mono hb.size); clear hb2; clear c0 c1 c2 k0 k1 k2; obtain ⟨⟨c0, c1, c2⟩, k0, k1, k2⟩ := HK.out _ hb)
        | (go_at_call 23; go_fit (f7 _ (HM.out _ hb)); rintro e wn ⟨rfl, hb2⟩; replace hb := hb.trans (hb2.mono hb.size); clear hb2; clear c0 c1 c2 k0 k1 k2; obtain ⟨⟨c0, c1, c2⟩, k0, k1, k2⟩ := HK.out _ hb)
        | (go_at_call 24; go_fit (f3 _); rintro e wn ⟨rfl, hb2⟩; replace hb := hb.trans (hb2.mono hb.size); clear hb2; clear c0 c1 c2 k0 k1 k2; obtain ⟨⟨c0, c1, c2⟩, k0, k1, k2⟩ := HK.out _ hb)
        | (go_at_call 24; go_fit (f4 _); rintro e wn ⟨rfl, hb2⟩; replace hb := hb.trans (hb2.mono hb.size); clear hb2; clear c0 c1 c2 k0 k1 k2; obtain ⟨⟨c0, c1, c2⟩, k0, k1, k2⟩ := HK.out _ hb)
        | (go_at_call 15; go_fit (f5 _); rintro e wn ⟨rfl, hb2⟩; replace hb := hb.trans (hb2.mono hb.size); clear hb2; clear c0 c1 c2 k0 k1 k2; obtain ⟨⟨c0, c1, c2⟩, k0, k1, k2⟩ := HK.out _ hb)
        | (go_at_call 15; go_fit (f6 _); rintro e wn ⟨rfl, hb2⟩; replace hb := hb.trans (hb2.mono hb.size); clear hb2; clear c0 c1 c2 k0 k1 k2; obtain ⟨⟨c0, c1, c2⟩, k0, k1, k2⟩ := HK.out _ hb))
      go_region_held3 (fun W => (W.cell? ⟨w1.heap.size, 0, none⟩ = some (.string l) ∧ W.cell? ⟨w1.heap.size, 1, none⟩ = some (.string d) ∧ W.cell? ⟨w1.heap.size, 2, none⟩ = some (.string r)) ∧ Below ((w1.alloc (.cells #[.string l, .string d, .string r] 24)).alloc (.cells #[.string x, .string y, .string z] 24)).heap.size ((w1.alloc (.cells #[.string l, .string d, .string r] 24)).alloc (.cells #[.string x, .string y, .string z] 24)) W)
        (with_reducible first | assumption | exact held_a hbN | exact held_a hb.drew)
        (first
          | (go_at_call 15; go_fit (f5 _); rintro e wm ⟨rfl, hb2⟩; have hbN := held_on (by assumption) hb2)
          | (go_at_call 25; go_fit (f8 _ (HM.out _ (And.right (by assumption)))); rintro e wm ⟨rfl, hb2⟩; have hbN := held_on (by assumption) hb2)
          | (go_at_call 16; go_fit (f9 _ (HM.out _ (And.right (by assumption)))); rintro e wm ⟨rfl, hb2⟩; have hbN := held_on (by assumption) hb2)
          | (go_at_call 25; go_fit (f10 _ (HM.out _ (And.right (by assumption)))); rintro e wm ⟨rfl, hb2⟩; have hbN := held_on (by assumption) hb2))
      all_goals
        have hbT : Below w.heap.size w wm := hbw.trans ((below_one (below_one hbN)).mono hbw.size)
        clear hbN f1 f2 f3 f4 f5 f6 f7 f8 f9 f10 HM HK q1 q2 q3
        go_wp2_with fail
        refine (draw_matches a1 len1 cap1 _ h1 (R1.out.lift hbT hbT.size)).mono ?_
        rintro e w2 ⟨⟨_, rfl, pl, pd, pr, jl, jd, jr, rfl, ⟨hl, hd, hr⟩, hx, hy, hz⟩, hbd⟩
        have hb2w := hbT.trans (hbd.mono hbT.size)
        have hm2 := hm.below hb2w hm.pos
        have HM2 := Lib.hid (fun W (h : Below ((w2.alloc (.cells #[.string pl, .string pd, .string pr] 24)).alloc (.cells #[.string jl, .string jd, .string jr] 24)).heap.size ((w2.alloc (.cells #[.string pl, .string pd, .string pr] 24)).alloc (.cells #[.string jl, .string jd, .string jr] 24)) W) => hm2.below (below_one (below_one h)) hm2.pos)
        have y1 : pl.size ≤ maxLen := by unfold maxLen; omega
        have y2 : pd.size ≤ maxLen := by unfold maxLen; omega
        have y3 : pr.size ≤ maxLen := by unfold maxLen; omega
        have y4 : jl.size ≤ maxLen := by unfold maxLen; omega
        have y5 : jd.size ≤ maxLen := by unfold maxLen; omega
        have y6 : jr.size ≤ maxLen := by unfold maxLen; omega
        have g1 := fun w => impl_match pl pd pr jl jd jr w y1 y2 y3 y4 y5 y6
        have g2 := fun w => spec_match pl pd pr jl jd jr w y1 y2 y3 y4 y5 y6
        obtain ⟨m, pm⟩ : ∃ v, matchJ pl pd pr jl jd jr = v := ⟨_, rfl⟩
        rw [pm] at g1 g2
        clear hbT hbd hm2 y1 y2 y3 y4 y5 y6 hl hd hr hx hy hz
        cases m
        · clear pm
          go_wp2
          refine wp_region_held_drew (S := (fun W => (W.cell? ⟨w2.heap.size, 0, none⟩ = some (.string pl) ∧ W.cell? ⟨w2.heap.size, 1, none⟩ = some (.string pd) ∧ W.cell? ⟨w2.heap.size, 2, none⟩ = some (.string pr) ∧ W.cell? ⟨w2.heap.size + 1, 0, none⟩ = some (.string jl) ∧ W.cell? ⟨w2.heap.size + 1, 1, none⟩ = some (.string jd) ∧ W.cell? ⟨w2.heap.size + 1, 2, none⟩ = some (.string jr)) ∧ Below ((w2.alloc (.cells #[.string pl, .string pd, .string pr] 24)).alloc (.cells #[.string jl, .string jd, .string jr] 24)).heap.size ((w2.alloc (.cells #[.string pl, .string pd, .string pr] 24)).alloc (.cells #[.string jl, .string jd, .string jr] 24)) W)) (by kernel_rfl) (held_six (Below.refl _ _).drew) (fun hHeld => ?_)
          refine takeH (i := 0) (k := 91) (v := .agg #[.string pl, .string pd, .string pr]) rfl (by rfl) (by kernel_rfl) (by kernel_rfl) (by kernel_rfl) (fun _ _ _ h => h) (by rfl) ?_ hHeld ?_
          · intro w hSw
            (try dsimp only at hSw)
            go_simp
          (try simp only [Act.put, List.setIfInBounds_toArray, List.set_cons_zero, List.set_cons_succ])
          refine takeH (i := 1) (k := 92) (v := .agg #[.string jl, .string jd, .string jr]) rfl (by rfl) (by kernel_rfl) (by kernel_rfl) (by kernel_rfl) (fun _ _ _ h => h) (by rfl) ?_ hHeld ?_
          · intro w hSw
            (try dsimp only at hSw)
            go_simp
          (try simp only [Act.put, List.setIfInBounds_toArray, List.set_cons_zero, List.set_cons_succ])
          refine takeH (i := 3) (k := 94) (v := .agg #[.string pl, .string pd, .string pr]) rfl (by rfl) (by kernel_rfl) (by kernel_rfl) (by kernel_rfl) (fun _ _ _ h => h) (by rfl) ?_ hHeld ?_
          · intro w hSw
            (try dsimp only at hSw)
            go_simp
          (try simp only [Act.put, List.setIfInBounds_toArray, List.set_cons_zero, List.set_cons_succ])
          refine takeH (i := 4) (k := 95) (v := .agg #[.string jl, .string jd, .string jr]) rfl (by rfl) (by kernel_rfl) (by kernel_rfl) (by kernel_rfl) (fun _ _ _ h => h) (by rfl) ?_ hHeld ?_
          · intro w hSw
            (try dsimp only at hSw)
            go_simp
          (try simp only [Act.put, List.setIfInBounds_toArray, List.set_cons_zero, List.set_cons_succ])
          refine wpAnyH_ready (rs := [2]) (by kernel_rfl) (by simp) ?_
          refine AllReadyH.cons rfl (fun K hK => ?_) AllReadyH.nil
          rw [if_pos (by rfl)]
          go_simp
          go_fit (g1 _ (HM2.out _ hHeld.2))
          rintro e wm ⟨rfl, hb2⟩
          have hbM := held_on hHeld hb2
          clear hb2
          refine hK.out _ _ (held_six hbM) (fun hHeld => ?_)
          clear hK K
          (try simp only [Act.put, List.setIfInBounds_toArray, List.set_cons_zero, List.set_cons_succ])
          refine wpAnyH_ready (rs := [5]) (by kernel_rfl) (by simp) ?_
          refine AllReadyH.cons rfl (fun K hK => ?_) AllReadyH.nil
          rw [if_pos (by rfl)]
          go_simp
          go_fit (g2 _)
          rintro e wm ⟨rfl, hb2⟩
          have hbM := held_on hHeld hb2
          clear hb2
          refine hK.out _ _ (held_six hbM) (fun hHeld => ?_)
          clear hK K
          (try simp only [Act.put, List.setIfInBounds_toArray, List.set_cons_zero, List.set_cons_succ])
          refine takeH (i := 6) (k := 97) (v := .bool true) rfl (by rfl) (by kernel_rfl) (by kernel_rfl) (by kernel_rfl) (fun _ _ _ h => h) (by rfl) ?_ hHeld ?_
          · intro w hSw
            (try dsimp only at hSw)
            go_simp
          (try simp only [Act.put, List.setIfInBounds_toArray, List.set_cons_zero, List.set_cons_succ])
          refine takeH (i := 7) (k := 98) (v := .bool true) rfl (by rfl) (by kernel_rfl) (by kernel_rfl) (by kernel_rfl) (fun _ _ _ h => h) (by rfl) ?_ hHeld ?_
          · intro w hSw
            (try dsimp only at hSw)
            go_simp
          (try simp only [Act.put, List.setIfInBounds_toArray, List.set_cons_zero, List.set_cons_succ])
          refine takeH (i := 8) (k := 99) (v := .agg #[.string pl, .string pd, .string pr]) rfl (by rfl) (by kernel_rfl) (by kernel_rfl) (by kernel_rfl) (fun _ _ _ h => h) (by rfl) ?_ hHeld ?_
          · intro w hSw
            (try dsimp only at hSw)
            go_simp
          (try simp only [Act.put, List.setIfInBounds_toArray, List.set_cons_zero, List.set_cons_succ])
          refine takeH (i := 9) (k := 100) (v := .agg #[.string jl, .string jd, .string jr]) rfl (by rfl) (by kernel_rfl) (by kernel_rfl) (by kernel_rfl) (fun _ _ _ h => h) (by rfl) ?_ hHeld ?_
          · intro w hSw
            (try dsimp only at hSw)
            go_simp
          (try simp only [Act.put, List.setIfInBounds_toArray, List.set_cons_zero, List.set_cons_succ])
          refine wpAnyH_ready (rs := [10]) (by kernel_rfl) (by simp) ?_
          refine AllReadyH.cons rfl (fun K hK => ?_) AllReadyH.nil
          rw [if_pos (by rfl)]
          go_simp
          go_fit (g1 _ (HM2.out _ hHeld.2))
          rintro e wm ⟨rfl, hb2⟩
          have hbM := held_on hHeld hb2
          clear hb2
          refine hK.out _ _ (held_six hbM) (fun hHeld => ?_)
          clear hK K
          (try simp only [Act.put, List.setIfInBounds_toArray, List.set_cons_zero, List.set_cons_succ])
          refine takeH (i := 11) (k := 102) (v := .bool true) rfl (by rfl) (by kernel_rfl) (by kernel_rfl) (by kernel_rfl) (fun _ _ _ h => h) (by rfl) ?_ hHeld ?_
          · intro w hSw
            (try dsimp only at hSw)
            go_simp
          (try simp only [Act.put, List.setIfInBounds_toArray, List.set_cons_zero, List.set_cons_succ])
          refine takeH (i := 12) (k := 103) (v := .bool true) rfl (by rfl) (by kernel_rfl) (by kernel_rfl) (by kernel_rfl) (fun _ _ _ h => h) (by rfl) ?_ hHeld ?_
          · intro w hSw
            (try dsimp only at hSw)
            go_simp
          (try simp only [Act.put, List.setIfInBounds_toArray, List.set_cons_zero, List.set_cons_succ])
          refine skipH (i := 13) (k := 104) rfl (by rfl) (by kernel_rfl) (by kernel_rfl) (by kernel_rfl) (fun _ _ _ h => h) (by rfl) hHeld ?_
          (try simp only [Act.put, List.setIfInBounds_toArray, List.set_cons_zero, List.set_cons_succ])
          refine skipH (i := 14) (k := 105) rfl (by rfl) (by kernel_rfl) (by kernel_rfl) (by kernel_rfl) (fun _ _ _ h => h) (by rfl) hHeld ?_
          (try simp only [Act.put, List.setIfInBounds_toArray, List.set_cons_zero, List.set_cons_succ])
          refine skipH (i := 15) (k := 106) rfl (by rfl) (by kernel_rfl) (by kernel_rfl) (by kernel_rfl) (fun _ _ _ h => h) (by rfl) hHeld ?_
          (try simp only [Act.put, List.setIfInBounds_toArray, List.set_cons_zero, List.set_cons_succ])
          refine skipH (i := 16) (k := 107) rfl (by rfl) (by kernel_rfl) (by kernel_rfl) (by kernel_rfl) (fun _ _ _ h => h) (by rfl) hHeld ?_
          (try simp only [Act.put, List.setIfInBounds_toArray, List.set_cons_zero, List.set_cons_succ])
          refine skipH (i := 17) (k := 108) rfl (by rfl) (by kernel_rfl) (by kernel_rfl) (by kernel_rfl) (fun _ _ _ h => h) (by rfl) hHeld ?_
          (try simp only [Act.put, List.setIfInBounds_toArray, List.set_cons_zero, List.set_cons_succ])
          refine takeH (i := 18) (k := 109) (v := .bool true) rfl (by rfl) (by kernel_rfl) (by kernel_rfl) (by kernel_rfl) (fun _ _ _ h => h) (by rfl) ?_ hHeld ?_
          · intro w hSw
            (try dsimp only at hSw)
            go_simp
          (try simp only [Act.put, List.setIfInBounds_toArray, List.set_cons_zero, List.set_cons_succ])
          refine takeH (i := 19) (k := 110) (v := .bool true) rfl (by rfl) (by kernel_rfl) (by kernel_rfl) (by kernel_rfl) (fun _ _ _ h => h) (by rfl) ?_ hHeld ?_
          · intro w hSw
            (try dsimp only at hSw)
            go_simp
          (try simp only [Act.put, List.setIfInBounds_toArray, List.set_cons_zero, List.set_cons_succ])
          refine takeH (i := 20) (k := 4) (v := .bool true) rfl (by rfl) (by kernel_rfl) (by kernel_rfl) (by kernel_rfl) (fun _ _ _ h => h) (by rfl) ?_ hHeld ?_
          · intro w hSw
            (try dsimp only at hSw)
            go_simp
          (try simp only [Act.put, List.setIfInBounds_toArray, List.set_cons_zero, List.set_cons_succ])
          refine wpAnyH_done (by kernel_rfl) ?_ _
          go_wp2
          go_ret
          exact ⟨rfl, hb2w.trans ((below_one (below_one hbM)).mono hb2w.size)⟩
        · have hdm := matchJ_dom pm
          clear pm
          go_wp2
          go_region_held3 (fun W => (W.cell? ⟨w2.heap.size, 0, none⟩ = some (.string pl) ∧ W.cell? ⟨w2.heap.size, 1, none⟩ = some (.string pd) ∧ W.cell? ⟨w2.heap.size, 2, none⟩ = some (.string pr) ∧ W.cell? ⟨w2.heap.size + 1, 0, none⟩ = some (.string jl) ∧ W.cell? ⟨w2.heap.size + 1, 1, none⟩ = some (.string jd) ∧ W.cell? ⟨w2.heap.size + 1, 2, none⟩ = some (.string jr)) ∧ Below ((w2.alloc (.cells #[.string pl, .string pd, .string pr] 24)).alloc (.cells #[.string jl, .string jd, .string jr] 24)).heap.size ((w2.alloc (.cells #[.string pl, .string pd, .string pr] 24)).alloc (.cells #[.string jl, .string jd, .string jr] 24)) W)
            (with_reducible first | assumption | exact held_six hbM | exact held_six (Below.refl _ _).drew)
            (first
              | (go_at_call 25; go_fit (g1 _ (HM2.out _ (And.right (by assumption)))); rintro e wm ⟨rfl, hb2⟩; have hbM := held_on (by assumption) hb2)
              | (go_at_call 27; go_fit (g2 _); rintro e wm ⟨rfl, hb2⟩; have hbM := held_on (by assumption) hb2))
          all_goals
            go_wp2
            go_ret
            exact ⟨rfl, hb2w.trans ((below_one (below_one hbM)).mono hb2w.size)⟩
    · have h3 : e1 = false ∨ (e1 = true ∧ e2 = false) ∨ (e1 = true ∧ e2 = true ∧ e3 = false) := by
        revert hor
        cases e1 <;> cases e2 <;> cases e3 <;> simp
      clear hor hand
      rcases h3 with rfl | ⟨rfl, rfl⟩ | ⟨rfl, rfl, rfl⟩
      all_goals
        go_wp2_with (first
          | (go_at_call 23; go_fit (f1 _ (HM.out _ hb)); rintro e wn ⟨rfl, hb2⟩; replace hb := hb.trans (hb2.mono hb.size); clear hb2; clear c0 c1 c2 k0 k1 k2; obtain ⟨⟨c0, c1, c2⟩, k0, k1, k2⟩ := HK.out _ hb)
          | (go_at_call 23; go_fit (f2 _ (HM.out _ hb)); rintro e wn ⟨rfl, hb2⟩; replace hb := hb.trans (hb2.mono hb.size); clear hb2; clear c0 c1 c2 k0 k1 k2; obtain ⟨⟨c0, c1, c2⟩, k0, k1, k2⟩ := HK.out _ hb)
          | (go_at_call 23; go_fit (f7 _ (HM.out _ hb)); rintro e wn ⟨rfl, hb2⟩; replace hb := hb.trans (hb2.mono hb.size); clear hb2; clear c0 c1 c2 k0 k1 k2; obtain ⟨⟨c0, c1, c2⟩, k0, k1, k2⟩ := HK.out _ hb)
          | (go_at_call 24; go_fit (f3 _); rintro e wn ⟨rfl, hb2⟩; replace hb := hb.trans (hb2.mono hb.size); clear hb2; clear c0 c1 c2 k0 k1 k2; obtain ⟨⟨c0, c1, c2⟩, k0, k1, k2⟩ := HK.out _ hb)
          | (go_at_call 24; go_fit (f4 _); rintro e wn ⟨rfl, hb2⟩; replace hb := hb.trans (hb2.mono hb.size); clear hb2; clear c0 c1 c2 k0 k1 k2; obtain ⟨⟨c0, c1, c2⟩, k0, k1, k2⟩ := HK.out _ hb)
          | (go_at_call 15; go_fit (f5 _); rintro e wn ⟨rfl, hb2⟩; replace hb := hb.trans (hb2.mono hb.size); clear hb2; clear c0 c1 c2 k0 k1 k2; obtain ⟨⟨c0, c1, c2⟩, k0, k1, k2⟩ := HK.out _ hb)
          | (go_at_call 15; go_fit (f6 _); rintro e wn ⟨rfl, hb2⟩; replace hb := hb.trans (hb2.mono hb.size); clear hb2; clear c0 c1 c2 k0 k1 k2; obtain ⟨⟨c0, c1, c2⟩, k0, k1, k2⟩ := HK.out _ hb))
        go_region_held3 (fun W => (W.cell? ⟨w1.heap.size, 0, none⟩ = some (.string l) ∧ W.cell? ⟨w1.heap.size, 1, none⟩ = some (.string d) ∧ W.cell? ⟨w1.heap.size, 2, none⟩ = some (.string r)) ∧ Below ((w1.alloc (.cells #[.string l, .string d, .string r] 24)).alloc (.cells #[.string x, .string y, .string z] 24)).heap.size ((w1.alloc (.cells #[.string l, .string d, .string r] 24)).alloc (.cells #[.string x, .string y, .string z] 24)) W)
          (with_reducible first | assumption | exact held_a hbN | exact held_a hb.drew)
          (first
            | (go_at_call 15; go_fit (f5 _); rintro e wm ⟨rfl, hb2⟩; have hbN := held_on (by assumption) hb2)
            | (go_at_call 25; go_fit (f8 _ (HM.out _ (And.right (by assumption)))); rintro e wm ⟨rfl, hb2⟩; have hbN := held_on (by assumption) hb2)
            | (go_at_call 16; go_fit (f9 _ (HM.out _ (And.right (by assumption)))); rintro e wm ⟨rfl, hb2⟩; have hbN := held_on (by assumption) hb2)
            | (go_at_call 25; go_fit (f10 _ (HM.out _ (And.right (by assumption)))); rintro e wm ⟨rfl, hb2⟩; have hbN := held_on (by assumption) hb2))
        all_goals
          have hbT : Below w.heap.size w wm := hbw.trans ((below_one (below_one hbN)).mono hbw.size)
          clear hbN f1 f2 f3 f4 f5 f6 f7 f8 f9 f10 HM HK q1 q2 q3
          go_wp2_with fail
          refine (draw_matches a1 len1 cap1 _ h1 (R1.out.lift hbT hbT.size)).mono ?_
          rintro e w2 ⟨⟨_, rfl, pl, pd, pr, jl, jd, jr, rfl, ⟨hl, hd, hr⟩, hx, hy, hz⟩, hbd⟩
          have hb2w := hbT.trans (hbd.mono hbT.size)
          have hm2 := hm.below hb2w hm.pos
          have HM2 := Lib.hid (fun W (h : Below ((w2.alloc (.cells #[.string pl, .string pd, .string pr] 24)).alloc (.cells #[.string jl, .string jd, .string jr] 24)).heap.size ((w2.alloc (.cells #[.string pl, .string pd, .string pr] 24)).alloc (.cells #[.string jl, .string jd, .string jr] 24)) W) => hm2.below (below_one (below_one h)) hm2.pos)
          have y1 : pl.size ≤ maxLen := by unfold maxLen; omega
          have y2 : pd.size ≤ maxLen := by unfold maxLen; omega
          have y3 : pr.size ≤ maxLen := by unfold maxLen; omega
          have y4 : jl.size ≤ maxLen := by unfold maxLen; omega
          have y5 : jd.size ≤ maxLen := by unfold maxLen; omega
          have y6 : jr.size ≤ maxLen := by unfold maxLen; omega
          have g1 := fun w => impl_match pl pd pr jl jd jr w y1 y2 y3 y4 y5 y6
          have g2 := fun w => spec_match pl pd pr jl jd jr w y1 y2 y3 y4 y5 y6
          obtain ⟨m, pm⟩ : ∃ v, matchJ pl pd pr jl jd jr = v := ⟨_, rfl⟩
          rw [pm] at g1 g2
          clear hbT hbd hm2 y1 y2 y3 y4 y5 y6 hl hd hr hx hy hz
          cases m
          · clear pm
            go_wp2
            refine wp_region_held_drew (S := (fun W => (W.cell? ⟨w2.heap.size, 0, none⟩ = some (.string pl) ∧ W.cell? ⟨w2.heap.size, 1, none⟩ = some (.string pd) ∧ W.cell? ⟨w2.heap.size, 2, none⟩ = some (.string pr) ∧ W.cell? ⟨w2.heap.size + 1, 0, none⟩ = some (.string jl) ∧ W.cell? ⟨w2.heap.size + 1, 1, none⟩ = some (.string jd) ∧ W.cell? ⟨w2.heap.size + 1, 2, none⟩ = some (.string jr)) ∧ Below ((w2.alloc (.cells #[.string pl, .string pd, .string pr] 24)).alloc (.cells #[.string jl, .string jd, .string jr] 24)).heap.size ((w2.alloc (.cells #[.string pl, .string pd, .string pr] 24)).alloc (.cells #[.string jl, .string jd, .string jr] 24)) W)) (by kernel_rfl) (held_six (Below.refl _ _).drew) (fun hHeld => ?_)
            refine takeH (i := 0) (k := 91) (v := .agg #[.string pl, .string pd, .string pr]) rfl (by rfl) (by kernel_rfl) (by kernel_rfl) (by kernel_rfl) (fun _ _ _ h => h) (by rfl) ?_ hHeld ?_
            · intro w hSw
              (try dsimp only at hSw)
              go_simp
            (try simp only [Act.put, List.setIfInBounds_toArray, List.set_cons_zero, List.set_cons_succ])
            refine takeH (i := 1) (k := 92) (v := .agg #[.string jl, .string jd, .string jr]) rfl (by rfl) (by kernel_rfl) (by kernel_rfl) (by kernel_rfl) (fun _ _ _ h => h) (by rfl) ?_ hHeld ?_
            · intro w hSw
              (try dsimp only at hSw)
              go_simp
            (try simp only [Act.put, List.setIfInBounds_toArray, List.set_cons_zero, List.set_cons_succ])
            refine takeH (i := 3) (k := 94) (v := .agg #[.string pl, .string pd, .string pr]) rfl (by rfl) (by kernel_rfl) (by kernel_rfl) (by kernel_rfl) (fun _ _ _ h => h) (by rfl) ?_ hHeld ?_
            · intro w hSw
              (try dsimp only at hSw)
              go_simp
            (try simp only [Act.put, List.setIfInBounds_toArray, List.set_cons_zero, List.set_cons_succ])
            refine takeH (i := 4) (k := 95) (v := .agg #[.string jl, .string jd, .string jr]) rfl (by rfl) (by kernel_rfl) (by kernel_rfl) (by kernel_rfl) (fun _ _ _ h => h) (by rfl) ?_ hHeld ?_
            · intro w hSw
              (try dsimp only at hSw)
              go_simp
            (try simp only [Act.put, List.setIfInBounds_toArray, List.set_cons_zero, List.set_cons_succ])
            refine wpAnyH_ready (rs := [2]) (by kernel_rfl) (by simp) ?_
            refine AllReadyH.cons rfl (fun K hK => ?_) AllReadyH.nil
            rw [if_pos (by rfl)]
            go_simp
            go_fit (g1 _ (HM2.out _ hHeld.2))
            rintro e wm ⟨rfl, hb2⟩
            have hbM := held_on hHeld hb2
            clear hb2
            refine hK.out _ _ (held_six hbM) (fun hHeld => ?_)
            clear hK K
            (try simp only [Act.put, List.setIfInBounds_toArray, List.set_cons_zero, List.set_cons_succ])
            refine wpAnyH_ready (rs := [5]) (by kernel_rfl) (by simp) ?_
            refine AllReadyH.cons rfl (fun K hK => ?_) AllReadyH.nil
            rw [if_pos (by rfl)]
            go_simp
            go_fit (g2 _)
            rintro e wm ⟨rfl, hb2⟩
            have hbM := held_on hHeld hb2
            clear hb2
            refine hK.out _ _ (held_six hbM) (fun hHeld => ?_)
            clear hK K
            (try simp only [Act.put, List.setIfInBounds_toArray, List.set_cons_zero, List.set_cons_succ])
            refine takeH (i := 6) (k := 97) (v := .bool true) rfl (by rfl) (by kernel_rfl) (by kernel_rfl) (by kernel_rfl) (fun _ _ _ h => h) (by rfl) ?_ hHeld ?_
            · intro w hSw
              (try dsimp only at hSw)
              go_simp
            (try simp only [Act.put, List.setIfInBounds_toArray, List.set_cons_zero, List.set_cons_succ])
            refine takeH (i := 7) (k := 98) (v := .bool true) rfl (by rfl) (by kernel_rfl) (by kernel_rfl) (by kernel_rfl) (fun _ _ _ h => h) (by rfl) ?_ hHeld ?_
            · intro w hSw
              (try dsimp only at hSw)
              go_simp
            (try simp only [Act.put, List.setIfInBounds_toArray, List.set_cons_zero, List.set_cons_succ])
            refine takeH (i := 8) (k := 99) (v := .agg #[.string pl, .string pd, .string pr]) rfl (by rfl) (by kernel_rfl) (by kernel_rfl) (by kernel_rfl) (fun _ _ _ h => h) (by rfl) ?_ hHeld ?_
            · intro w hSw
              (try dsimp only at hSw)
              go_simp
            (try simp only [Act.put, List.setIfInBounds_toArray, List.set_cons_zero, List.set_cons_succ])
            refine takeH (i := 9) (k := 100) (v := .agg #[.string jl, .string jd, .string jr]) rfl (by rfl) (by kernel_rfl) (by kernel_rfl) (by kernel_rfl) (fun _ _ _ h => h) (by rfl) ?_ hHeld ?_
            · intro w hSw
              (try dsimp only at hSw)
              go_simp
            (try simp only [Act.put, List.setIfInBounds_toArray, List.set_cons_zero, List.set_cons_succ])
            refine wpAnyH_ready (rs := [10]) (by kernel_rfl) (by simp) ?_
            refine AllReadyH.cons rfl (fun K hK => ?_) AllReadyH.nil
            rw [if_pos (by rfl)]
            go_simp
            go_fit (g1 _ (HM2.out _ hHeld.2))
            rintro e wm ⟨rfl, hb2⟩
            have hbM := held_on hHeld hb2
            clear hb2
            refine hK.out _ _ (held_six hbM) (fun hHeld => ?_)
            clear hK K
            (try simp only [Act.put, List.setIfInBounds_toArray, List.set_cons_zero, List.set_cons_succ])
            refine takeH (i := 11) (k := 102) (v := .bool true) rfl (by rfl) (by kernel_rfl) (by kernel_rfl) (by kernel_rfl) (fun _ _ _ h => h) (by rfl) ?_ hHeld ?_
            · intro w hSw
              (try dsimp only at hSw)
              go_simp
            (try simp only [Act.put, List.setIfInBounds_toArray, List.set_cons_zero, List.set_cons_succ])
            refine takeH (i := 12) (k := 103) (v := .bool true) rfl (by rfl) (by kernel_rfl) (by kernel_rfl) (by kernel_rfl) (fun _ _ _ h => h) (by rfl) ?_ hHeld ?_
            · intro w hSw
              (try dsimp only at hSw)
              go_simp
            (try simp only [Act.put, List.setIfInBounds_toArray, List.set_cons_zero, List.set_cons_succ])
            refine skipH (i := 13) (k := 104) rfl (by rfl) (by kernel_rfl) (by kernel_rfl) (by kernel_rfl) (fun _ _ _ h => h) (by rfl) hHeld ?_
            (try simp only [Act.put, List.setIfInBounds_toArray, List.set_cons_zero, List.set_cons_succ])
            refine skipH (i := 14) (k := 105) rfl (by rfl) (by kernel_rfl) (by kernel_rfl) (by kernel_rfl) (fun _ _ _ h => h) (by rfl) hHeld ?_
            (try simp only [Act.put, List.setIfInBounds_toArray, List.set_cons_zero, List.set_cons_succ])
            refine skipH (i := 15) (k := 106) rfl (by rfl) (by kernel_rfl) (by kernel_rfl) (by kernel_rfl) (fun _ _ _ h => h) (by rfl) hHeld ?_
            (try simp only [Act.put, List.setIfInBounds_toArray, List.set_cons_zero, List.set_cons_succ])
            refine skipH (i := 16) (k := 107) rfl (by rfl) (by kernel_rfl) (by kernel_rfl) (by kernel_rfl) (fun _ _ _ h => h) (by rfl) hHeld ?_
            (try simp only [Act.put, List.setIfInBounds_toArray, List.set_cons_zero, List.set_cons_succ])
            refine skipH (i := 17) (k := 108) rfl (by rfl) (by kernel_rfl) (by kernel_rfl) (by kernel_rfl) (fun _ _ _ h => h) (by rfl) hHeld ?_
            (try simp only [Act.put, List.setIfInBounds_toArray, List.set_cons_zero, List.set_cons_succ])
            refine takeH (i := 18) (k := 109) (v := .bool true) rfl (by rfl) (by kernel_rfl) (by kernel_rfl) (by kernel_rfl) (fun _ _ _ h => h) (by rfl) ?_ hHeld ?_
            · intro w hSw
              (try dsimp only at hSw)
              go_simp
            (try simp only [Act.put, List.setIfInBounds_toArray, List.set_cons_zero, List.set_cons_succ])
            refine takeH (i := 19) (k := 110) (v := .bool true) rfl (by rfl) (by kernel_rfl) (by kernel_rfl) (by kernel_rfl) (fun _ _ _ h => h) (by rfl) ?_ hHeld ?_
            · intro w hSw
              (try dsimp only at hSw)
              go_simp
            (try simp only [Act.put, List.setIfInBounds_toArray, List.set_cons_zero, List.set_cons_succ])
            refine takeH (i := 20) (k := 4) (v := .bool true) rfl (by rfl) (by kernel_rfl) (by kernel_rfl) (by kernel_rfl) (fun _ _ _ h => h) (by rfl) ?_ hHeld ?_
            · intro w hSw
              (try dsimp only at hSw)
              go_simp
            (try simp only [Act.put, List.setIfInBounds_toArray, List.set_cons_zero, List.set_cons_succ])
            refine wpAnyH_done (by kernel_rfl) ?_ _
            go_wp2
            go_ret
            exact ⟨rfl, hb2w.trans ((below_one (below_one hbM)).mono hb2w.size)⟩
          · have hdm := matchJ_dom pm
            clear pm
            go_wp2
            go_region_held3 (fun W => (W.cell? ⟨w2.heap.size, 0, none⟩ = some (.string pl) ∧ W.cell? ⟨w2.heap.size, 1, none⟩ = some (.string pd) ∧ W.cell? ⟨w2.heap.size, 2, none⟩ = some (.string pr) ∧ W.cell? ⟨w2.heap.size + 1, 0, none⟩ = some (.string jl) ∧ W.cell? ⟨w2.heap.size + 1, 1, none⟩ = some (.string jd) ∧ W.cell? ⟨w2.heap.size + 1, 2, none⟩ = some (.string jr)) ∧ Below ((w2.alloc (.cells #[.string pl, .string pd, .string pr] 24)).alloc (.cells #[.string jl, .string jd, .string jr] 24)).heap.size ((w2.alloc (.cells #[.string pl, .string pd, .string pr] 24)).alloc (.cells #[.string jl, .string jd, .string jr] 24)) W)
              (with_reducible first | assumption | exact held_six hbM | exact held_six (Below.refl _ _).drew)
              (first
                | (go_at_call 25; go_fit (g1 _ (HM2.out _ (And.right (by assumption)))); rintro e wm ⟨rfl, hb2⟩; have hbM := held_on (by assumption) hb2)
                | (go_at_call 27; go_fit (g2 _); rintro e wm ⟨rfl, hb2⟩; have hbM := held_on (by assumption) hb2))
            all_goals
              go_wp2
              go_ret
              exact ⟨rfl, hb2w.trans ((below_one (below_one hbM)).mono hb2w.size)⟩
    · have h3 : e1 = false ∨ (e1 = true ∧ e2 = false) ∨ (e1 = true ∧ e2 = true ∧ e3 = false) := by
        revert hor
        cases e1 <;> cases e2 <;> cases e3 <;> simp
      clear hor hand
      rcases h3 with rfl | ⟨rfl, rfl⟩ | ⟨rfl, rfl, rfl⟩
      all_goals
        go_wp2_with (first
          | (go_at_call 23; go_fit (f1 _ (HM.out _ hb)); rintro e wn ⟨rfl, hb2⟩; replace hb := hb.trans (hb2.mono hb.size); clear hb2; clear c0 c1 c2 k0 k1 k2; obtain ⟨⟨c0, c1, c2⟩, k0, k1, k2⟩ := HK.out _ hb)
          | (go_at_call 23; go_fit (f2 _ (HM.out _ hb)); rintro e wn ⟨rfl, hb2⟩; replace hb := hb.trans (hb2.mono hb.size); clear hb2; clear c0 c1 c2 k0 k1 k2; obtain ⟨⟨c0, c1, c2⟩, k0, k1, k2⟩ := HK.out _ hb)
          | (go_at_call 23; go_fit (f7 _ (HM.out _ hb)); rintro e wn ⟨rfl, hb2⟩; replace hb := hb.trans (hb2.mono hb.size); clear hb2; clear c0 c1 c2 k0 k1 k2; obtain ⟨⟨c0, c1, c2⟩, k0, k1, k2⟩ := HK.out _ hb)
          | (go_at_call 24; go_fit (f3 _); rintro e wn ⟨rfl, hb2⟩; replace hb := hb.trans (hb2.mono hb.size); clear hb2; clear c0 c1 c2 k0 k1 k2; obtain ⟨⟨c0, c1, c2⟩, k0, k1, k2⟩ := HK.out _ hb)
          | (go_at_call 24; go_fit (f4 _); rintro e wn ⟨rfl, hb2⟩; replace hb := hb.trans (hb2.mono hb.size); clear hb2; clear c0 c1 c2 k0 k1 k2; obtain ⟨⟨c0, c1, c2⟩, k0, k1, k2⟩ := HK.out _ hb)
          | (go_at_call 15; go_fit (f5 _); rintro e wn ⟨rfl, hb2⟩; replace hb := hb.trans (hb2.mono hb.size); clear hb2; clear c0 c1 c2 k0 k1 k2; obtain ⟨⟨c0, c1, c2⟩, k0, k1, k2⟩ := HK.out _ hb)
          | (go_at_call 15; go_fit (f6 _); rintro e wn ⟨rfl, hb2⟩; replace hb := hb.trans (hb2.mono hb.size); clear hb2; clear c0 c1 c2 k0 k1 k2; obtain ⟨⟨c0, c1, c2⟩, k0, k1, k2⟩ := HK.out _ hb))
        go_region_held3 (fun W => (W.cell? ⟨w1.heap.size, 0, none⟩ = some (.string l) ∧ W.cell? ⟨w1.heap.size, 1, none⟩ = some (.string d) ∧ W.cell? ⟨w1.heap.size, 2, none⟩ = some (.string r)) ∧ Below ((w1.alloc (.cells #[.string l, .string d, .string r] 24)).alloc (.cells #[.string x, .string y, .string z] 24)).heap.size ((w1.alloc (.cells #[.string l, .string d, .string r] 24)).alloc (.cells #[.string x, .string y, .string z] 24)) W)
          (with_reducible first | assumption | exact held_a hbN | exact held_a hb.drew)
          (first
            | (go_at_call 15; go_fit (f5 _); rintro e wm ⟨rfl, hb2⟩; have hbN := held_on (by assumption) hb2)
            | (go_at_call 25; go_fit (f8 _ (HM.out _ (And.right (by assumption)))); rintro e wm ⟨rfl, hb2⟩; have hbN := held_on (by assumption) hb2)
            | (go_at_call 16; go_fit (f9 _ (HM.out _ (And.right (by assumption)))); rintro e wm ⟨rfl, hb2⟩; have hbN := held_on (by assumption) hb2)
            | (go_at_call 25; go_fit (f10 _ (HM.out _ (And.right (by assumption)))); rintro e wm ⟨rfl, hb2⟩; have hbN := held_on (by assumption) hb2))
        all_goals
          have hbT : Below w.heap.size w wm := hbw.trans ((below_one (below_one hbN)).mono hbw.size)
          clear hbN f1 f2 f3 f4 f5 f6 f7 f8 f9 f10 HM HK q1 q2 q3
          go_wp2_with fail
          refine (draw_matches a1 len1 cap1 _ h1 (R1.out.lift hbT hbT.size)).mono ?_
          rintro e w2 ⟨⟨_, rfl, pl, pd, pr, jl, jd, jr, rfl, ⟨hl, hd, hr⟩, hx, hy, hz⟩, hbd⟩
          have hb2w := hbT.trans (hbd.mono hbT.size)
          have hm2 := hm.below hb2w hm.pos
          have HM2 := Lib.hid (fun W (h : Below ((w2.alloc (.cells #[.string pl, .string pd, .string pr] 24)).alloc (.cells #[.string jl, .string jd, .string jr] 24)).heap.size ((w2.alloc (.cells #[.string pl, .string pd, .string pr] 24)).alloc (.cells #[.string jl, .string jd, .string jr] 24)) W) => hm2.below (below_one (below_one h)) hm2.pos)
          have y1 : pl.size ≤ maxLen := by unfold maxLen; omega
          have y2 : pd.size ≤ maxLen := by unfold maxLen; omega
          have y3 : pr.size ≤ maxLen := by unfold maxLen; omega
          have y4 : jl.size ≤ maxLen := by unfold maxLen; omega
          have y5 : jd.size ≤ maxLen := by unfold maxLen; omega
          have y6 : jr.size ≤ maxLen := by unfold maxLen; omega
          have g1 := fun w => impl_match pl pd pr jl jd jr w y1 y2 y3 y4 y5 y6
          have g2 := fun w => spec_match pl pd pr jl jd jr w y1 y2 y3 y4 y5 y6
          obtain ⟨m, pm⟩ : ∃ v, matchJ pl pd pr jl jd jr = v := ⟨_, rfl⟩
          rw [pm] at g1 g2
          clear hbT hbd hm2 y1 y2 y3 y4 y5 y6 hl hd hr hx hy hz
          cases m
          · clear pm
            go_wp2
            refine wp_region_held_drew (S := (fun W => (W.cell? ⟨w2.heap.size, 0, none⟩ = some (.string pl) ∧ W.cell? ⟨w2.heap.size, 1, none⟩ = some (.string pd) ∧ W.cell? ⟨w2.heap.size, 2, none⟩ = some (.string pr) ∧ W.cell? ⟨w2.heap.size + 1, 0, none⟩ = some (.string jl) ∧ W.cell? ⟨w2.heap.size + 1, 1, none⟩ = some (.string jd) ∧ W.cell? ⟨w2.heap.size + 1, 2, none⟩ = some (.string jr)) ∧ Below ((w2.alloc (.cells #[.string pl, .string pd, .string pr] 24)).alloc (.cells #[.string jl, .string jd, .string jr] 24)).heap.size ((w2.alloc (.cells #[.string pl, .string pd, .string pr] 24)).alloc (.cells #[.string jl, .string jd, .string jr] 24)) W)) (by kernel_rfl) (held_six (Below.refl _ _).drew) (fun hHeld => ?_)
            refine takeH (i := 0) (k := 91) (v := .agg #[.string pl, .string pd, .string pr]) rfl (by rfl) (by kernel_rfl) (by kernel_rfl) (by kernel_rfl) (fun _ _ _ h => h) (by rfl) ?_ hHeld ?_
            · intro w hSw
              (try dsimp only at hSw)
              go_simp
            (try simp only [Act.put, List.setIfInBounds_toArray, List.set_cons_zero, List.set_cons_succ])
            refine takeH (i := 1) (k := 92) (v := .agg #[.string jl, .string jd, .string jr]) rfl (by rfl) (by kernel_rfl) (by kernel_rfl) (by kernel_rfl) (fun _ _ _ h => h) (by rfl) ?_ hHeld ?_
            · intro w hSw
              (try dsimp only at hSw)
              go_simp
            (try simp only [Act.put, List.setIfInBounds_toArray, List.set_cons_zero, List.set_cons_succ])
            refine takeH (i := 3) (k := 94) (v := .agg #[.string pl, .string pd, .string pr]) rfl (by rfl) (by kernel_rfl) (by kernel_rfl) (by kernel_rfl) (fun _ _ _ h => h) (by rfl) ?_ hHeld ?_
            · intro w hSw
              (try dsimp only at hSw)
              go_simp
            (try simp only [Act.put, List.setIfInBounds_toArray, List.set_cons_zero, List.set_cons_succ])
            refine takeH (i := 4) (k := 95) (v := .agg #[.string jl, .string jd, .string jr]) rfl (by rfl) (by kernel_rfl) (by kernel_rfl) (by kernel_rfl) (fun _ _ _ h => h) (by rfl) ?_ hHeld ?_
            · intro w hSw
              (try dsimp only at hSw)
              go_simp
            (try simp only [Act.put, List.setIfInBounds_toArray, List.set_cons_zero, List.set_cons_succ])
            refine wpAnyH_ready (rs := [2]) (by kernel_rfl) (by simp) ?_
            refine AllReadyH.cons rfl (fun K hK => ?_) AllReadyH.nil
            rw [if_pos (by rfl)]
            go_simp
            go_fit (g1 _ (HM2.out _ hHeld.2))
            rintro e wm ⟨rfl, hb2⟩
            have hbM := held_on hHeld hb2
            clear hb2
            refine hK.out _ _ (held_six hbM) (fun hHeld => ?_)
            clear hK K
            (try simp only [Act.put, List.setIfInBounds_toArray, List.set_cons_zero, List.set_cons_succ])
            refine wpAnyH_ready (rs := [5]) (by kernel_rfl) (by simp) ?_
            refine AllReadyH.cons rfl (fun K hK => ?_) AllReadyH.nil
            rw [if_pos (by rfl)]
            go_simp
            go_fit (g2 _)
            rintro e wm ⟨rfl, hb2⟩
            have hbM := held_on hHeld hb2
            clear hb2
            refine hK.out _ _ (held_six hbM) (fun hHeld => ?_)
            clear hK K
            (try simp only [Act.put, List.setIfInBounds_toArray, List.set_cons_zero, List.set_cons_succ])
            refine takeH (i := 6) (k := 97) (v := .bool true) rfl (by rfl) (by kernel_rfl) (by kernel_rfl) (by kernel_rfl) (fun _ _ _ h => h) (by rfl) ?_ hHeld ?_
            · intro w hSw
              (try dsimp only at hSw)
              go_simp
            (try simp only [Act.put, List.setIfInBounds_toArray, List.set_cons_zero, List.set_cons_succ])
            refine takeH (i := 7) (k := 98) (v := .bool true) rfl (by rfl) (by kernel_rfl) (by kernel_rfl) (by kernel_rfl) (fun _ _ _ h => h) (by rfl) ?_ hHeld ?_
            · intro w hSw
              (try dsimp only at hSw)
              go_simp
            (try simp only [Act.put, List.setIfInBounds_toArray, List.set_cons_zero, List.set_cons_succ])
            refine takeH (i := 8) (k := 99) (v := .agg #[.string pl, .string pd, .string pr]) rfl (by rfl) (by kernel_rfl) (by kernel_rfl) (by kernel_rfl) (fun _ _ _ h => h) (by rfl) ?_ hHeld ?_
            · intro w hSw
              (try dsimp only at hSw)
              go_simp
            (try simp only [Act.put, List.setIfInBounds_toArray, List.set_cons_zero, List.set_cons_succ])
            refine takeH (i := 9) (k := 100) (v := .agg #[.string jl, .string jd, .string jr]) rfl (by rfl) (by kernel_rfl) (by kernel_rfl) (by kernel_rfl) (fun _ _ _ h => h) (by rfl) ?_ hHeld ?_
            · intro w hSw
              (try dsimp only at hSw)
              go_simp
            (try simp only [Act.put, List.setIfInBounds_toArray, List.set_cons_zero, List.set_cons_succ])
            refine wpAnyH_ready (rs := [10]) (by kernel_rfl) (by simp) ?_
            refine AllReadyH.cons rfl (fun K hK => ?_) AllReadyH.nil
            rw [if_pos (by rfl)]
            go_simp
            go_fit (g1 _ (HM2.out _ hHeld.2))
            rintro e wm ⟨rfl, hb2⟩
            have hbM := held_on hHeld hb2
            clear hb2
            refine hK.out _ _ (held_six hbM) (fun hHeld => ?_)
            clear hK K
            (try simp only [Act.put, List.setIfInBounds_toArray, List.set_cons_zero, List.set_cons_succ])
            refine takeH (i := 11) (k := 102) (v := .bool true) rfl (by rfl) (by kernel_rfl) (by kernel_rfl) (by kernel_rfl) (fun _ _ _ h => h) (by rfl) ?_ hHeld ?_
            · intro w hSw
              (try dsimp only at hSw)
              go_simp
            (try simp only [Act.put, List.setIfInBounds_toArray, List.set_cons_zero, List.set_cons_succ])
            refine takeH (i := 12) (k := 103) (v := .bool true) rfl (by rfl) (by kernel_rfl) (by kernel_rfl) (by kernel_rfl) (fun _ _ _ h => h) (by rfl) ?_ hHeld ?_
            · intro w hSw
              (try dsimp only at hSw)
              go_simp
            (try simp only [Act.put, List.setIfInBounds_toArray, List.set_cons_zero, List.set_cons_succ])
            refine skipH (i := 13) (k := 104) rfl (by rfl) (by kernel_rfl) (by kernel_rfl) (by kernel_rfl) (fun _ _ _ h => h) (by rfl) hHeld ?_
            (try simp only [Act.put, List.setIfInBounds_toArray, List.set_cons_zero, List.set_cons_succ])
            refine skipH (i := 14) (k := 105) rfl (by rfl) (by kernel_rfl) (by kernel_rfl) (by kernel_rfl) (fun _ _ _ h => h) (by rfl) hHeld ?_
            (try simp only [Act.put, List.setIfInBounds_toArray, List.set_cons_zero, List.set_cons_succ])
            refine skipH (i := 15) (k := 106) rfl (by rfl) (by kernel_rfl) (by kernel_rfl) (by kernel_rfl) (fun _ _ _ h => h) (by rfl) hHeld ?_
            (try simp only [Act.put, List.setIfInBounds_toArray, List.set_cons_zero, List.set_cons_succ])
            refine skipH (i := 16) (k := 107) rfl (by rfl) (by kernel_rfl) (by kernel_rfl) (by kernel_rfl) (fun _ _ _ h => h) (by rfl) hHeld ?_
            (try simp only [Act.put, List.setIfInBounds_toArray, List.set_cons_zero, List.set_cons_succ])
            refine skipH (i := 17) (k := 108) rfl (by rfl) (by kernel_rfl) (by kernel_rfl) (by kernel_rfl) (fun _ _ _ h => h) (by rfl) hHeld ?_
            (try simp only [Act.put, List.setIfInBounds_toArray, List.set_cons_zero, List.set_cons_succ])
            refine takeH (i := 18) (k := 109) (v := .bool true) rfl (by rfl) (by kernel_rfl) (by kernel_rfl) (by kernel_rfl) (fun _ _ _ h => h) (by rfl) ?_ hHeld ?_
            · intro w hSw
              (try dsimp only at hSw)
              go_simp
            (try simp only [Act.put, List.setIfInBounds_toArray, List.set_cons_zero, List.set_cons_succ])
            refine takeH (i := 19) (k := 110) (v := .bool true) rfl (by rfl) (by kernel_rfl) (by kernel_rfl) (by kernel_rfl) (fun _ _ _ h => h) (by rfl) ?_ hHeld ?_
            · intro w hSw
              (try dsimp only at hSw)
              go_simp
            (try simp only [Act.put, List.setIfInBounds_toArray, List.set_cons_zero, List.set_cons_succ])
            refine takeH (i := 20) (k := 4) (v := .bool true) rfl (by rfl) (by kernel_rfl) (by kernel_rfl) (by kernel_rfl) (fun _ _ _ h => h) (by rfl) ?_ hHeld ?_
            · intro w hSw
              (try dsimp only at hSw)
              go_simp
            (try simp only [Act.put, List.setIfInBounds_toArray, List.set_cons_zero, List.set_cons_succ])
            refine wpAnyH_done (by kernel_rfl) ?_ _
            go_wp2
            go_ret
            exact ⟨rfl, hb2w.trans ((below_one (below_one hbM)).mono hb2w.size)⟩
          · have hdm := matchJ_dom pm
            clear pm
            go_wp2
            go_region_held3 (fun W => (W.cell? ⟨w2.heap.size, 0, none⟩ = some (.string pl) ∧ W.cell? ⟨w2.heap.size, 1, none⟩ = some (.string pd) ∧ W.cell? ⟨w2.heap.size, 2, none⟩ = some (.string pr) ∧ W.cell? ⟨w2.heap.size + 1, 0, none⟩ = some (.string jl) ∧ W.cell? ⟨w2.heap.size + 1, 1, none⟩ = some (.string jd) ∧ W.cell? ⟨w2.heap.size + 1, 2, none⟩ = some (.string jr)) ∧ Below ((w2.alloc (.cells #[.string pl, .string pd, .string pr] 24)).alloc (.cells #[.string jl, .string jd, .string jr] 24)).heap.size ((w2.alloc (.cells #[.string pl, .string pd, .string pr] 24)).alloc (.cells #[.string jl, .string jd, .string jr] 24)) W)
              (with_reducible first | assumption | exact held_six hbM | exact held_six (Below.refl _ _).drew)
              (first
                | (go_at_call 25; go_fit (g1 _ (HM2.out _ (And.right (by assumption)))); rintro e wm ⟨rfl, hb2⟩; have hbM := held_on (by assumption) hb2)
                | (go_at_call 27; go_fit (g2 _); rintro e wm ⟨rfl, hb2⟩; have hbM := held_on (by assumption) hb2))
            all_goals
              go_wp2
              go_ret
              exact ⟨rfl, hb2w.trans ((below_one (below_one hbM)).mono hb2w.size)⟩
    · cases hand
end Go.Proofs.Ytddefjnnehjjkaa
