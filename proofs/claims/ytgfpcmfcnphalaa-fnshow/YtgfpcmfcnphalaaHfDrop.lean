/- impl.HalfDrop. -/
import Derived.Test.YtgfpcmfcnphalaaHfDropS
import Derived.Deep.MidRow
namespace Go.Proofs.Ytgfpcmfcnphalaa
set_option linter.unusedSimpArgs false
set_option linter.unusedVariables false
open Go.RowKit Go.Joins

/-- Dropping, step by step. -/
def dAtH (h : HfL) : Nat → HfL
  | 0 => h
  | 1 => ⟨h.n, 0, 0, h.i, h.f⟩
  | _ => ⟨h.n, 0, 0, 0, 0⟩
def dAtS (h : HfL) : Nat → List SbL
  | 0 => []
  | 1 => if h.o + h.t = 0 then [] else [⟨3, h.o + h.t⟩]
  | _ => dropS h
/-- A step that has nothing to end, or ends something. -/
def DStep (g g' : HfL) (k : Int) (S S' : List SbL) : Prop := (sayR g k = illH 10 ∧ g' = g ∧ S' = S) ∨ ∃ m, sayR g k = sentH g' k m ∧ S' = S ++ [⟨k, m⟩]
theorem d_ok {h : HfL} (q : h.ok) : HfL.ok ⟨h.n, 0, 0, h.i, h.f⟩ := by
  obtain ⟨n, o, t, i, f⟩ := h
  obtain ⟨q0, q1, q2, q3, q4, q5, q6, q7, q8, q9, q10, q11⟩ := q
  exact ⟨q0, q1, Int.le_refl _, q0, Int.le_refl _, q0, .inl rfl, q7, q8, q9, q10, q11⟩
theorem d_step {h : HfL} (q : h.ok) (i : Nat) (hi : i < 2) : DStep (dAtH h i) (dAtH h (i + 1)) (3 + i) (dAtS h i) (dAtS h (i + 1)) := by
  have q' := d_ok q
  match i, hi with
  | 0, _ =>
    have e : sayR h 3 = if h.o + h.t = 0 then illH 10 else sentH ⟨h.n, 0, 0, h.i, h.f⟩ 3 (h.o + h.t) := (sayR_in q rfl).trans say_eq3
    by_cases z : h.o + h.t = 0
    · rw [if_pos z] at e
      refine .inl ⟨e, ?_, if_pos z⟩
      obtain ⟨n, o, t, i, f⟩ := h
      obtain ⟨q0, q1, q2, q3, q4, q5, q6, q7, q8, q9, q10, q11⟩ := q
      dsimp only at z q2 q4
      obtain rfl : o = 0 := by omega
      obtain rfl : t = 0 := by omega
      rfl
    · rw [if_neg z] at e
      exact .inr ⟨_, e, if_neg z⟩
  | 1, _ =>
    have e : sayR ⟨h.n, 0, 0, h.i, h.f⟩ 4 = if h.i + h.f = 0 then illH 10 else sentH ⟨h.n, 0, 0, 0, 0⟩ 4 (h.i + h.f) := (sayR_in q' rfl).trans say_eq4
    by_cases z : h.i + h.f = 0
    · rw [if_pos z] at e
      refine .inl ⟨e, ?_, ?_⟩
      · obtain ⟨n, o, t, i, f⟩ := h
        obtain ⟨q0, q1, q2, q3, q4, q5, q6, q7, q8, q9, q10, q11⟩ := q
        dsimp only at z q7 q9
        obtain rfl : i = 0 := by omega
        obtain rfl : f = 0 := by omega
        rfl
      · show dropS h = _
        unfold dropS
        rw [if_pos z, List.append_nil]
        rfl
    · rw [if_neg z] at e
      refine .inr ⟨_, e, ?_⟩
      show dropS h = _
      unfold dropS
      rw [if_neg z]
      rfl
theorem dropR_in {h : HfL} (q : h.ok) : dropR h = ⟨dAtH h 2, dAtS h 2, 0⟩ := if_pos q
theorem dropR_bad {h : HfL} (q : ¬ h.ok) : dropR h = illH 1 := if_neg q
theorem dropR_len (h : HfL) : (dropR h).s.length ≤ 2 := by
  unfold dropR
  split
  · unfold dropS
    show ((if h.o + h.t = 0 then [] else _) ++ (if h.i + h.f = 0 then [] else _) : List SbL).length ≤ 2
    rw [List.length_append]
    split <;> split <;> exact Nat.le_of_ble_eq_true rfl
  · decide
theorem dAtS_len (h : HfL) (i : Nat) : (dAtS h i).length ≤ 2 := by
  match i with
  | 0 => exact Nat.zero_le _
  | 1 =>
    show (if h.o + h.t = 0 then [] else [(⟨3, h.o + h.t⟩ : SbL)]).length ≤ 2
    split <;> exact Nat.le_of_ble_eq_true rfl
  | _ + 2 =>
    show (dropS h).length ≤ 2
    unfold dropS
    rw [List.length_append]
    split <;> split <;> exact Nat.le_of_ble_eq_true rfl
theorem kinds_at {W : World} {b i : Nat} (h : Arr W b 2 [.int .i64 3, .int .i64 4]) (hi : i < 2) : W.cell? ⟨b, i, none⟩ = some (.int .i64 (3 + (i : Int))) := by
  match i, hi with
  | 0, _ => exact h.cell 0
  | 1, _ => exact h.cell 1
/-- A half stored at the head of an answer's box. -/
theorem wp_put_half {ops : Array Oper} {rest : List Oper} {op : Oper} {a : Act} {w : World} {Q : Exit → Act → World → Prop} (hgd : op.guard = none) (x y : Operand) (ho : op.op = .store 24 x y)
    (b : Nat) (g : HfL) (hx : a.eval x = .pointer (some ⟨b, 0, none⟩)) (hy : a.eval y = hfL g) (g0 : HfL) (v : Value) (hA : Arr w b 29 (drC g0 v))
    (h : ∀ W2, Arr W2 b 29 (drC g v) → w.grownBy W2 (some b) → W2.heap.size = w.heap.size → wpList Try.prog ops Q rest (a.put op.dst undef) W2) : wpList Try.prog ops Q (op :: rest) a w := by
  refine wpList_store_mid hgd 24 x y ho b 0 #[.int .i64 g.n, .int .i64 g.o, .int .i64 g.t, .int .i64 g.i, .int .i64 g.f] hx hy (fun j hj => ?_) (by kernel_rfl) (by kernel_rfl) (h _ ?_ ?_ ?_)
  · match j, hj with
    | 0, _ => exact ⟨by rw [hA.cell]; rfl, hA.free _⟩
    | 1, _ => exact ⟨by rw [hA.cell]; rfl, hA.free _⟩
    | 2, _ => exact ⟨by rw [hA.cell]; rfl, hA.free _⟩
    | 3, _ => exact ⟨by rw [hA.cell]; rfl, hA.free _⟩
    | 4, _ => exact ⟨by rw [hA.cell]; rfl, hA.free _⟩
  · exact ((((hA.put 0 _).put 1 _).put 2 _).put 3 _).put 4 _
  · exact grown_put (grown_put (grown_put (grown_put (grown_put ⟨rfl, rfl, rfl, Nat.le_refl _, fun _ _ _ => rfl⟩ _ _) _ _) _ _) _ _) _ _
  · simp [World.setCells]
theorem DrS.half {w W W2 : World} {l : List (Nat × List Value)} {b : Nat} {h g : HfL} {v : Value} {xs : List SbL} (d : DrS w W l b h v xs) (hA : Arr W2 b 29 (drC g v)) (hg : W.grownBy W2 (some b)) : DrS w W2 l b g v xs := by
  have hb := d.hb
  refine ⟨⟨Below.grown d.bx.1 hg d.bx.1.size (fun k e => by injection e with e; omega), fun k hk => ?_⟩, hb, hA, ?_⟩
  · have h1 := d.bx.2 k hk
    exact (hg.block _ (arr_ltH h1) (fun e => by injection e with e; omega)).trans h1
  · exact d.own.kept hg (by
      cases hv : v.ownBlock with
      | none => exact .inl rfl
      | some k => exact .inr (fun e => by
          injection e with e
          have := own_base d.own k hv
          omega))
theorem arr_grownH {w W2 : World} {b t z : Nat} {cs : List Value} (h : Arr w b t cs) (hg : w.grownBy W2 (some z)) (hne : b ≠ z) : Arr W2 b t cs := (hg.block b (arr_ltH h) (fun e => hne (by injection e))).trans h
set_option maxHeartbeats 2000000 in
theorem impl_drop_in (h : HfL) (w : World) (q : h.ok) : Calls Try.prog 24 #[hfL h] w fun e w' => HoIs w.heap.size ⟨dAtH h 2, dAtS h 2, 0⟩ e w' ∧ Below w.heap.size w w' := by
  have i1 := fun W => impl_right h W
  rw [decide_eq_true q] at i1
  have HQ := Lib.hid q
  clear q
  go_enter Try.func24, Try.ntmps24
  go_wp2_with (first
    | (go_at_call 19; go_fit (i1 _); rintro e w1 ⟨rfl, hb⟩; have HX1 := Lib.hid ((bx2 w 24 29 (hfC h) hoZ).on hb); clear hb; obtain ⟨⟨c0, c1, c2, c3, c4⟩, _⟩ := hf_cells (b := w.heap.size) (h := h) (HX1.out.2 0 (show 0 < 2 by decide))))
  have HD0 := Lib.hid ((dr_start HX1.out (arr_ltH (HX1.out.2 1 (show 1 < 2 by decide))) h).on ((Below.refl _ _).alloc (Nat.le_refl _) (.cells #[.int .i64 3, .int .i64 4] 2)))
  have HK0 : Hid (Arr ((w1.alloc (.cells (drC h (.slice none 0 0)).toArray 29)).alloc (.cells #[.int .i64 3, .int .i64 4] 2)) (w1.heap.size + 1) 2 [.int .i64 3, .int .i64 4]) := Lib.hid (by
    have h0 := Arr.fresh (w1.alloc (.cells (drC h (.slice none 0 0)).toArray 29)) 2 [.int .i64 3, .int .i64 4]
    rw [World.size_alloc] at h0
    exact h0)
  have hz1 : w.heap.size < w1.heap.size := arr_ltH (HX1.out.2 0 (show 0 < 2 by decide))
  clear i1 c0 c1 c2 c3 c4
  go_loopw [15] (fun iq wr => ∃ (i : Nat) (v : Value), i ≤ 2 ∧ iq = .int .i64 i ∧ DrS w wr [(24, hfC h), (29, hoZ)] w1.heap.size (dAtH h i) v (dAtS h i) ∧ Arr wr (w1.heap.size + 1) 2 [.int .i64 3, .int .i64 4]) (fun i _ => 2 - (intOf i).toNat)
  case atStart => exact ⟨0, _, by omega, rfl, HD0.out, HK0.out⟩
  case round =>
    obtain ⟨i, v, hi, rfl, hd, hk⟩ := hrel
    have HD := Lib.hid hd
    have HK := Lib.hid hk
    obtain ⟨⟨d0, d1, d2, d3, d4, d5, d6⟩, e0, e1, e2, e3, e4, e5⟩ := dr_cells hd.arr
    have hlt := arr_ltH hd.arr
    have hlk := arr_ltH hk
    by_cases hlt2 : i < 2
    · have hkc := kinds_at hk hlt2
      have hS := d_step HQ.out i hlt2
      obtain ⟨g, hg⟩ : ∃ g, dAtH h i = g := ⟨_, rfl⟩
      obtain ⟨g', hg'⟩ : ∃ g', dAtH h (i + 1) = g' := ⟨_, rfl⟩
      obtain ⟨S, hSS⟩ : ∃ S, dAtS h i = S := ⟨_, rfl⟩
      obtain ⟨S', hSS'⟩ : ∃ S', dAtS h (i + 1) = S' := ⟨_, rfl⟩
      rw [hg, hg', hSS, hSS'] at hS
      rw [hg, hSS] at HD
      rw [hg] at d0 d1 d2 d3 d4
      have HSL : Hid (S.length ≤ 2) := Lib.hid (by rw [← hSS]; exact dAtS_len h i)
      have HG := Lib.hid (And.intro hg' hSS')
      have i2 := fun W => impl_say g (3 + (i : Int)) W
      clear hd hk hg hg' hSS hSS'
      rcases hS with ⟨hR, rfl, rfl⟩ | ⟨m, hR, rfl⟩
      · rw [hR] at i2
        replace i2 : ∀ W, Calls Try.prog 13 #[hfL g', .int .i64 (3 + (i : Int))] W fun e w' => (∃ p k, e = .returned (.agg #[.int .i64 0, .int .i64 0, .int .i64 0, .int .i64 0, .int .i64 0, .slice p 0 k, .int .i64 10]) ∧ OwnC sbC w' W.heap.size 32 2 (.slice p 0 k) []) ∧ Below W.heap.size W w' := i2
        clear hR
        go_wp2_with (first
          | (go_at_call 13; go_fit (i2 _); rintro e w2 ⟨⟨p, k, rfl, ho⟩, hb⟩; have HD2 := Lib.hid (HD.out.on hb); have HK2 := Lib.hid ((hb.block _ hlk).trans HK.out); clear hb))
        exact ⟨⟨i + 1, v, by omega, by go_num, by rw [HG.out.1, HG.out.2]; exact HD2.out.on ((Below.refl _ _).alloc (Nat.le_refl _) _), ((Below.refl _ w2).alloc (Nat.le_refl _) _).block _ (arr_ltH HK2.out) |>.trans HK2.out⟩, by simp [intOf]; omega⟩
      · rw [hR] at i2
        replace i2 : ∀ W, Calls Try.prog 13 #[hfL g, .int .i64 (3 + (i : Int))] W fun e w' => (∃ p k, e = .returned (.agg #[.int .i64 g'.n, .int .i64 g'.o, .int .i64 g'.t, .int .i64 g'.i, .int .i64 g'.f, .slice p 1 k, .int .i64 0]) ∧ OwnC sbC w' W.heap.size 32 2 (.slice p 1 k) [⟨3 + (i : Int), m⟩]) ∧ Below W.heap.size W w' := i2
        clear hR
        go_wp2_with (first
          | (go_at_call 13; go_fit (i2 _); rintro e w2 ⟨⟨p, k, rfl, ho⟩, hb⟩; have HD2 := Lib.hid (HD.out.on hb); have HK2 := Lib.hid ((hb.block _ hlk).trans HK.out); have HO2 := Lib.hid ho; have hlt3 := arr_ltH HD2.out.arr; have hlt4 : wr.heap.size ≤ w2.heap.size := hb.size; clear hb ho d0 d1 d2 d3 d4 d5 d6 e0 e1 e2 e3 e4 e5 hkc)
          | (refine wp_put_half rfl _ _ rfl w1.heap.size g' rfl rfl g v (HD2.out.on ((Below.refl _ w2).alloc (Nat.le_refl _) _)).arr ?_; intro W2 hA hg hsz; have HD3 := Lib.hid ((HD2.out.on ((Below.refl _ w2).alloc (Nat.le_refl _) _)).half hA hg); have HK3 := Lib.hid (arr_grownH (((Below.refl _ w2).alloc (Nat.le_refl _) _).block _ (arr_ltH HK2.out) |>.trans HK2.out) hg (by omega)); have HO3 : Hid (OwnC sbC W2 wr.heap.size 32 2 (.slice p 1 k) [⟨3 + (i : Int), m⟩]) := Lib.hid ((HO2.out.alloc _).kept hg (.inr (fun e => by have := own_base HO2.out _ e; omega))); have HF3 := Lib.hid (arr_grownH (Arr.fresh w2 29 [.int .i64 g'.n, .int .i64 g'.o, .int .i64 g'.t, .int .i64 g'.i, .int .i64 g'.f, .slice p 1 k, .int .i64 0]) hg (by omega)); have f5 := HF3.out.cell 5; have hsz' : W2.heap.size = w2.heap.size + 1 := hsz.trans (World.size_alloc ..); clear hA hg hsz; obtain ⟨⟨d0, d1, d2, d3, d4, d5, d6⟩, e0, e1, e2, e3, e4, e5⟩ := dr_cells HD3.out.arr)
          | (at_builtin; refine app_rowH W2 rfl _ _ rfl (w1.heap.size + 2) v S rfl HD3.out.own wr.heap.size p k 1 [⟨3 + (i : Int), m⟩] rfl rfl HO3.out (by decide) (by have := HSL.out; simp; omega) (by omega) ?_; intro v' w3 ho hg; have HL4 := Lib.hid (HD3.out.low hg); have HD4 := Lib.hid (HD3.out.send hg ho); have HB4 : Hid (w3.heap[w1.heap.size + 1]? = W2.heap[w1.heap.size + 1]?) := Lib.hid (hg.block _ (by omega) (fun e => by have := own_base HD3.out.own _ e.symm; omega)); obtain ⟨p', k', rfl, _⟩ := ho.row sbC_len; clear ho hg d0 d1 d2 d3 d4 d5 d6 e0 e1 e2 e3 e4 e5 f5; obtain ⟨⟨d0, d1, d2, d3, d4, d5, d6⟩, e0, e1, e2, e3, e4, e5⟩ := dr_cells HL4.out.2))
        exact ⟨⟨i + 1, _, by omega, by go_num, by rw [HG.out.1, HG.out.2]; have hD := HD4.out; rw [List.length_append] at hD; exact hD, arr_farH (HB4.out.trans HK3.out) (by omega) _⟩, by simp [intOf]; omega⟩
    · obtain rfl : i = 2 := by omega
      obtain ⟨p, k, rfl, _⟩ := hd.own.row sbC_len
      clear hd hk
      go_wp2_with (refine wpList_store_row rfl 29 _ _ rfl (w.heap.size + 1) _ rfl rfl 29 _ (HD.out.bx.2 1 (show 1 < 2 by decide)) (by kernel_rfl) (by rfl) (by kernel_rfl) ?_)
      have HY := HD.out.bx.row 1 (show 1 < 2 by decide) (hoC (dAtH h 2) p (dAtS h 2).length k 0)
      exact bodyPost_ret (v := hoV (dAtH h 2) p (dAtS h 2).length k 0) (results_cell_row (P := Try.prog) Try.results24 _ _ (w.heap.size + 1) 29 _ (0, 0) _ rfl (HY.2 1 (show 1 < 2 by decide)) Try.underlying29 rfl (by kernel_rfl)) rfl ⟨⟨p, k, rfl, (HD.out.own.setRowH (by omega) _).mono (by omega)⟩, HY.1⟩
set_option maxHeartbeats 1000000 in
theorem impl_drop_bad (h : HfL) (w : World) (q : ¬ h.ok) : Calls Try.prog 24 #[hfL h] w fun e w' => HoIs w.heap.size (illH 1) e w' ∧ Below w.heap.size w w' := by
  have i1 := fun W => impl_right h W
  rw [decide_eq_false q] at i1
  clear q
  go_enter Try.func24, Try.ntmps24
  go_wp2_with (first
    | (go_at_call 19; go_fit (i1 _); rintro e w1 ⟨rfl, hb⟩; have HX1 := Lib.hid ((bx2 w 24 29 (hfC h) hoZ).on hb); clear hb)
    | (refine wpList_store_row rfl 29 _ _ rfl (w.heap.size + 1) _ rfl rfl 29 _ (HX1.out.2 1 (show 1 < 2 by decide)) (by kernel_rfl) (by rfl) (by kernel_rfl) ?_))
  have HY := HX1.out.row 1 (show 1 < 2 by decide) (hoC hf0 none 0 0 1)
  exact bodyPost_ret (v := hoV hf0 none 0 0 1) (results_cell_row (P := Try.prog) Try.results24 _ _ (w.heap.size + 1) 29 _ (0, 0) _ rfl (HY.2 1 (show 1 < 2 by decide)) Try.underlying29 rfl (by kernel_rfl)) rfl ⟨ho_ill _ _ _, HY.1⟩
theorem impl_drop (h : HfL) (w : World) : Calls Try.prog 24 #[hfL h] w fun e w' => HoIs w.heap.size (dropR h) e w' ∧ Below w.heap.size w w' := by
  by_cases q : h.ok
  · rw [dropR_in q]
    exact impl_drop_in h w q
  · rw [dropR_bad q]
    exact impl_drop_bad h w q
theorem spec_drop (h : HfL) (w : World) : Calls Try.prog 25 #[hfL h] w fun e w' => HoIs w.heap.size (dropR h) e w' ∧ Below w.heap.size w w' := by
  by_cases q : h.ok
  · have e : dropR h = ⟨⟨h.n, 0, 0, 0, 0⟩, dropS h, 0⟩ := if_pos q
    rw [e]
    unfold dropS
    have q' := q
    obtain ⟨n, o, t, i, f⟩ := h
    obtain ⟨q0, q1, q2, q3, q4, q5, q6, q7, q8, q9, q10, q11⟩ := q'
    dsimp only at q0 q1 q2 q3 q4 q5 q6 q7 q8 q9 q10 q11 ⊢
    by_cases za : o + t = 0
    · obtain rfl : o = 0 := by omega
      obtain rfl : t = 0 := by omega
      rw [if_pos za]
      by_cases zb : i + f = 0
      · obtain rfl : i = 0 := by omega
        obtain rfl : f = 0 := by omega
        rw [if_pos zb]
        exact spec_drop00 n w q
      · rw [if_neg zb]
        exact spec_drop01 n i f w q (neF zb)
    · rw [if_neg za]
      by_cases zb : i + f = 0
      · obtain rfl : i = 0 := by omega
        obtain rfl : f = 0 := by omega
        rw [if_pos zb]
        exact spec_drop10 n o t w q (neF za)
      · rw [if_neg zb]
        exact spec_drop11 n o t i f w q (neF za) (neF zb)
  · rw [dropR_bad q]
    exact spec_drop_bad h w q
end Go.Proofs.Ytgfpcmfcnphalaa
