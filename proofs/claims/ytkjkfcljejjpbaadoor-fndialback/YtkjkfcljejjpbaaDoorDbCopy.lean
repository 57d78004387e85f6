/- Copies of a dialback: slices.Clone, impl.dialbackCopy, spec.l06Copy. -/
import Derived.Test.YtkjkfcljejjpbaaDoorDbBits
import Derived.Test.YtkjkfcljejjpbaaDoorDbRightM
import Derived.Test.YtkjkfcljejjpbaaDoorHandQ
import Derived.Test.YtkjkfcljejjpbaaDoorJoinWalks
import Derived.Laws.AppendOwn
import Derived.Lib.SliceRun
namespace Go.Proofs.YtkjkfcljejjpbaaDoor
set_option linter.unusedSimpArgs false
set_option linter.unusedVariables false
open Go.RowKit Go.Joins

theorem flat_set {α : Type} {enc : α → List Value} {size : Nat} (hlen : ∀ x, (enc x).length = size) {u : Value} {y : α} : ∀ (xs : List α) (i j : Nat) (hi : i < xs.length), j < size → enc y = (enc xs[i]).set j u → (xs.set i y).flatMap enc = (xs.flatMap enc).set (i * size + j) u
  | x :: xs, 0, j, hi, hj, h => by
    rw [List.set_cons_zero, List.flatMap_cons, List.flatMap_cons, Nat.zero_mul, Nat.zero_add, List.set_append_left _ _ (by rw [hlen]; exact hj)]
    rw [show enc y = (enc x).set j u from h]
  | x :: xs, i + 1, j, hi, hj, h => by
    rw [List.set_cons_succ, List.flatMap_cons, List.flatMap_cons, List.set_append_right _ _ (by rw [hlen, Nat.add_mul, Nat.one_mul]; omega), hlen, show (i + 1) * size + j - size = i * size + j by rw [Nat.add_mul, Nat.one_mul]; omega]
    rw [flat_set hlen xs i j (by simpa using hi) hj (by simpa using h)]
/-- One cell of an element is stored. -/
theorem OwnC.set {α : Type} {enc : α → List Value} {w : World} {B e size g n c : Nat} {xs : List α} (hlen : ∀ x, (enc x).length = size) (h : OwnC enc w B e size (.slice (some ⟨g, 0, none⟩) n c) xs) (i j : Nat) (hi : i < xs.length) (hj : j < size) {u : Value} {y : α} (hy : enc y = (enc xs[i]).set j u) :
    OwnC enc (w.setCell ⟨g, i * size + j, none⟩ u) B e size (.slice (some ⟨g, 0, none⟩) n c) (xs.set i y) := by
  refine ⟨by rw [List.length_set, flat_set hlen xs i j hi hj hy, List.length_set]; exact h.1, ?_⟩
  rcases h.2 with ⟨h0, _⟩ | ⟨g', c', cur, h1, h2, h3, h4, h5, h6, h7⟩
  · cases h0
  · injection h1 with e1 e2 e3
    injection e1 with e1
    injection e1 with e1
    subst e1 e3
    have hA : Arr w g e cur.toList := by unfold Arr; simpa using h3
    have hA2 := hA.put (i * size + j) u
    refine .inr ⟨g, c, (cur.toList.set (i * size + j) u).toArray, by rw [List.length_set, ← e2], h2, hA2, by rw [List.length_set]; exact h4, h5, by simpa using h6, ?_⟩
    rw [List.length_set, flat_set hlen xs i j hi hj hy, ← h7, List.take_set]
theorem own_lt {α : Type} {enc : α → List Value} {w : World} {B e size : Nat} {v : Value} {xs : List α} (h : OwnC enc w B e size v xs) : ∀ k, v.ownBlock = some k → k < w.heap.size := by
  intro k hk
  rcases h.2 with ⟨h0, _⟩ | ⟨g, c, cur, h1, h2, h3, _⟩
  · rw [h0] at hk; cases hk
  · rw [h1] at hk
    injection hk with hk
    subst hk
    exact (Array.getElem?_eq_some_iff.1 h3).1
/-- A store elsewhere leaves the row. -/
theorem own_other {α : Type} {enc : α → List Value} {w : World} {B e size : Nat} {v : Value} {xs : List α} (h : OwnC enc w B e size v xs) {b i : Nat} {u : Value} (hne : ∀ k, v.ownBlock = some k → b ≠ k) : OwnC enc (w.setCell ⟨b, i, none⟩ u) B e size v xs := by
  refine ⟨h.1, ?_⟩
  rcases h.2 with h0 | ⟨g, c, cur, h1, h2, h3, h4⟩
  · exact .inl h0
  · refine .inr ⟨g, c, cur, h1, h2, ?_, h4⟩
    have : b ≠ g := hne g (by rw [h1]; rfl)
    exact (heap_setCell_other w ⟨b, i, none⟩ g u (fun e => this e.symm)).trans h3
/-- A row is no box of another type. -/
theorem own_ne_box {α : Type} {enc : α → List Value} {W : World} {B e size b ty : Nat} {v : Value} {xs : List α} {cs : List Value} (ho : OwnC enc W B e size v xs) (hA : Arr W b ty cs) (hne : e ≠ ty) : ∀ j, v.ownBlock = some j → j ≠ b := by
  intro j hj ej
  subst ej
  rcases ho.2 with ⟨h0, _⟩ | ⟨g, c, cur, h1, h2, h3, _⟩
  · rw [h0] at hj; cases hj
  · rw [h1] at hj
    injection hj with hj
    have hj' : g = j := hj
    subst hj'
    have e1 := Option.some.inj (h3.symm.trans hA)
    injection e1 with _ e2 _
    exact hne e2
theorem set_same {α : Type} (xs : List α) (i : Nat) (hi : i < xs.length) : xs.set i xs[i] = xs := by simp
theorem info_prc : (Tryd.prog.info? 43).map (fun i => (i.zero, i.size, i.bytes)) = some (some (.agg #[.string ⟨#[]⟩, .int .i64 0, .int .i64 0, .string ⟨#[]⟩]), 4, 48) := by kernel_rfl
theorem one_allP (xs : List PrL) : ∀ u ∈ xs.flatMap prC, u.oneCell' = true := by
  intro u hu
  obtain ⟨x, _, hx⟩ := List.mem_flatMap.1 hu
  exact prC_one x u hx
theorem empty_rowP (W : World) : OwnC prC (W.alloc (.cells #[] 43)) W.heap.size 43 4 (.slice (some ⟨W.heap.size, 0, none⟩) 0 0) [] :=
  World.ownsRow_lit W #[] 0 (Nat.le_refl _) (Nat.zero_le _) rfl
/-- append(v, row...). -/
theorem wp_app_rowP {o : Oper} {a : Act} {w : World} {K : Act → World → Prop} {Q : Exit → Act → World → Prop} (s x : Operand)
    (ho : o.op = .call { callee := .builtin .append, args := #[s, x], argTypes := #[23, 23] })
    (B : Nat) (v : Value) (ys : List PrL) (hs : a.eval s = v) (hown : OwnC prC w B 43 4 v ys) (B2 : Nat) (p : Option Addr) (n c : Nat) (xs : List PrL) (hx : a.eval x = .slice p n c) (hrow : OwnC prC w B2 43 4 (.slice p n c) xs)
    (hlen : ys.length + xs.length ≤ 2000000) (hB : B ≤ w.heap.size) (h : ∀ v' w', OwnC prC w' B 43 4 v' (ys ++ xs) → w.grownBy w' v.ownBlock → K (a.put o.dst v') w') : o.wp Tryd.prog a w K Q := by
  obtain ⟨i0, hi, hz0, hz1, hz2⟩ := info_parts info_prc
  rcases hrow.2 with ⟨e, h0⟩ | ⟨g, cap, cur, e, h1, h2, h3, h4, h5, h6⟩
  · obtain rfl := List.eq_nil_of_length_eq_zero h0
    rw [e] at hx
    have hr := run_append_owned_none (P := Tryd.prog) (w := w) B 23 o.type 43 i0 4 Tryd.underlying23 hi v ys.length (ys.flatMap prC) hown
    rw [List.append_nil] at h
    unfold Oper.wp execOp
    simp only [ho, resolve, invoke, builtin, Sem.run_bind, Sem.run_pure, Result.andThen_ok, List.map_toArray, List.map_cons, List.map_nil, hs, hx, hr]
    exact h v w hown (World.grownBy.refl w _)
  · have hc := hrow
    rw [e] at hx hc
    refine wp_append_own w s x 23 ho B 43 i0 _ 4 48 Tryd.underlying23 hi hz0 hz1 hz2 rfl (by decide) v ys.length (ys.flatMap prC) hs hown ⟨g, 0, none⟩ xs.length cap (xs.flatMap prC) hx hc.1 (fun j u hj => ?_) (one_allP xs) (by unfold maxLen; omega) (by omega) hB (fun v' w' h1 h2 _ => h v' w' ?_ h2)
    · have hlt : j < xs.length * 4 := by
        have := (List.getElem?_eq_some_iff.1 hj).1
        rw [hc.1] at this
        exact this
      have := World.ownsRow.cellAt hc j hlt
      rw [hj] at this
      rw [show (⟨g, 0, none⟩ : Addr).add j = ⟨g, j, none⟩ by unfold Addr.add; split <;> simp_all]
      exact this
    · show w'.ownsRow B _ 4 v' (ys ++ xs).length ((ys ++ xs).flatMap prC)
      rw [List.length_append, List.flatMap_append]
      exact h1
theorem wpList_app_rowP {ops : Array Oper} {rest : List Oper} {o : Oper} {a : Act} {w : World} {Q : Exit → Act → World → Prop} (hgd : o.guard = none) (s x : Operand)
    (ho : o.op = .call { callee := .builtin .append, args := #[s, x], argTypes := #[23, 23] })
    (B : Nat) (v : Value) (ys : List PrL) (hs : a.eval s = v) (hown : OwnC prC w B 43 4 v ys) (B2 : Nat) (p : Option Addr) (n c : Nat) (xs : List PrL) (hx : a.eval x = .slice p n c) (hrow : OwnC prC w B2 43 4 (.slice p n c) xs)
    (hlen : ys.length + xs.length ≤ 2000000) (hB : B ≤ w.heap.size) (h : ∀ v' w', OwnC prC w' B 43 4 v' (ys ++ xs) → w.grownBy w' v.ownBlock → wpList Tryd.prog ops Q rest (a.put o.dst v') w') : wpList Tryd.prog ops Q (o :: rest) a w :=
  wpList_plain hgd fun K hK => wp_app_rowP s x ho B v ys hs hown B2 p n c xs hx hrow hlen hB fun v' w' h1 h2 => hK _ _ (h v' w' h1 h2)
set_option maxRecDepth 100000 in
set_option maxHeartbeats 1000000 in
theorem impl_clone (ps : List PrL) (p : Option Addr) (c B0 : Nat) (w : World) (hl : ps.length ≤ 1048576) (hO : OwnC prC w B0 43 4 (.slice p ps.length c) ps) :
    Calls Tryd.prog 48 #[.slice p ps.length c] w fun e w' => (∃ q k, e = .returned (.slice q ps.length k) ∧ OwnC prC w' w.heap.size 43 4 (.slice q ps.length k) ps) ∧ Below w.heap.size w w' := by
  have HO := Lib.hid hO
  rcases hO.2 with ⟨h1, h0⟩ | ⟨g, cap, cur, h1, _⟩
  · injection h1 with e1 e2 e3
    subst e1 e3
    obtain rfl := List.eq_nil_of_length_eq_zero h0
    have hn := fun W => Lib.run_eql_slice_nil (P := Tryd.prog) W 23 43 none 0 0 0 0 Tryd.underlying23
    clear hO HO
    go_enter Tryd.func48, Tryd.ntmps48
    go_wp2
    go_ret
    exact ⟨⟨none, 0, rfl, ownC_nil _ _ _ _ _⟩, Below.refl _ _⟩
  · injection h1 with e1 e2 e3
    subst e1 e3
    clear hO
    obtain ⟨N, hN⟩ : ∃ N, ps.length = N := ⟨_, rfl⟩
    rw [hN] at HO hl ⊢
    have HN := Lib.hid hN
    have hn := fun W => Lib.run_eql_slice_nil (P := Tryd.prog) W 23 43 (some ⟨g, 0, none⟩) N c 0 0 Tryd.underlying23
    clear hN e2
    go_enter Tryd.func48, Tryd.ntmps48
    go_wp2_with (at_builtin; refine wpList_app_rowP rfl _ _ rfl w.heap.size _ [] rfl (empty_rowP w) B0 _ _ _ ps rfl (HO.out.alloc _) (by rw [HN.out]; simp; omega) (by simp) ?_; intro v' w' ho hg; have HV := Lib.hid ho; have HB : Hid (Below w.heap.size w w') := Lib.hid ((((Below.refl w.heap.size w).alloc (Nat.le_refl _) _).grown hg (by simp) (fun k hk => by cases hk; exact Nat.le_refl _))); clear ho hg)
    obtain ⟨q, k, hv, _⟩ := HV.out.row prC_len
    rw [List.nil_append] at HV hv
    rw [HN.out] at hv
    subst hv
    go_ret
    exact ⟨⟨q, k, rfl, HV.out⟩, HB.out⟩
/-- The two boxes of a copying function: the dialback's and the answer's. -/
def CpB (w W : World) (d : ByteArray) (n : Int) (v : Value) : Prop := Arr W w.heap.size 25 [.string d, .int .i64 n, v] ∧ Arr W (w.heap.size + 1) 25 [.string ⟨#[]⟩, .int .i64 0, .slice none 0 0] ∧ Below w.heap.size w W
theorem CpB.on {w W W2 : World} {d : ByteArray} {n : Int} {v : Value} (h : CpB w W d n v) (hb : Below W.heap.size W W2) : CpB w W2 d n v := ⟨arr_below h.1 hb, arr_below h.2.1 hb, h.2.2.trans (hb.mono h.2.2.size)⟩
theorem cpb_start (w : World) (d : ByteArray) (n : Int) (v : Value) : CpB w ((w.alloc (.cells #[.string d, .int .i64 n, v] 25)).alloc (.cells #[.string ⟨#[]⟩, .int .i64 0, .slice none 0 0] 25)) d n v := by
  have h2 := Arr.fresh (w.alloc (.cells #[.string d, .int .i64 n, v] 25)) 25 [.string ⟨#[]⟩, .int .i64 0, .slice none 0 0]
  rw [World.size_alloc] at h2
  exact ⟨arr_alloc (Arr.fresh w _ _) _, h2, ((Below.refl _ _).alloc (Nat.le_refl _) _).alloc (by simp) _⟩
theorem CpB.put0 {w W : World} {d : ByteArray} {n : Int} {v : Value} (h : CpB w W d n v) : CpB w (W.setCell ⟨w.heap.size, 0, none⟩ (.string d)) d n v :=
  ⟨h.1.put 0 _, arr_beside h.2.1 w.heap.size 0 _ (by omega), h.2.2.setCell (p := ⟨w.heap.size, 0, none⟩) (Nat.le_refl _) _⟩
theorem CpB.put2 {w W : World} {d : ByteArray} {n : Int} {v : Value} (h : CpB w W d n v) (u : Value) : CpB w (W.setCell ⟨w.heap.size, 2, none⟩ u) d n u :=
  ⟨h.1.put 2 _, arr_beside h.2.1 w.heap.size 2 _ (by omega), h.2.2.setCell (p := ⟨w.heap.size, 2, none⟩) (Nat.le_refl _) _⟩
theorem CpB.other {w W : World} {d : ByteArray} {n : Int} {v : Value} (h : CpB w W d n v) {g : Nat} (hg : w.heap.size + 2 ≤ g) (i : Nat) (u : Value) : CpB w (W.setCell ⟨g, i, none⟩ u) d n v :=
  ⟨arr_beside h.1 g i u (by omega), arr_beside h.2.1 g i u (by omega), h.2.2.setCell (p := ⟨g, i, none⟩) (by show w.heap.size ≤ g; omega) _⟩
theorem CpB.grow {w W W2 : World} {d : ByteArray} {n : Int} {v : Value} {r : Nat} (h : CpB w W d n v) (hg : W.grownBy W2 (some r)) (hr : w.heap.size + 2 ≤ r) : CpB w W2 d n v := by
  have hlt : w.heap.size + 2 ≤ W.heap.size := by have := arr_lt h.2.1; omega
  have hb : Below (w.heap.size + 2) W W2 := (Below.refl _ W).grown hg hlt (fun k hk => by cases hk; exact hr)
  exact ⟨(hb.block _ (by omega)).trans h.1, (hb.block _ (by omega)).trans h.2.1, h.2.2.trans (hb.mono (by omega))⟩
/-- The answer's box is filled. -/
theorem cpb_end {w W : World} {d : ByteArray} {n : Int} {v : Value} (h : CpB w W d n v) : Arr (((W.setCell ⟨w.heap.size + 1, 0, none⟩ (.string d)).setCell ⟨w.heap.size + 1, 1, none⟩ (.int .i64 n)).setCell ⟨w.heap.size + 1, 2, none⟩ v) (w.heap.size + 1) 25 [.string d, .int .i64 n, v] ∧
    Below w.heap.size w (((W.setCell ⟨w.heap.size + 1, 0, none⟩ (.string d)).setCell ⟨w.heap.size + 1, 1, none⟩ (.int .i64 n)).setCell ⟨w.heap.size + 1, 2, none⟩ v) :=
  ⟨((h.2.1.put 0 _).put 1 _).put 2 _, below_three h.2.2 (Nat.le_succ _) _ _ _⟩
theorem arr_4p {w : World} {g t : Nat} {a b c d : Value} (h : Arr w g t [a, b, c, d]) : (w.cell? ⟨g, 0, none⟩ = some a ∧ w.cell? ⟨g, 1, none⟩ = some b ∧ w.cell? ⟨g, 2, none⟩ = some c ∧ w.cell? ⟨g, 3, none⟩ = some d) ∧ w.frozen? ⟨g, 0, none⟩ = false ∧ w.frozen? ⟨g, 1, none⟩ = false ∧ w.frozen? ⟨g, 2, none⟩ = false ∧ w.frozen? ⟨g, 3, none⟩ = false :=
  ⟨⟨h.cell 0, h.cell 1, h.cell 2, h.cell 3⟩, h.free 0, h.free 1, h.free 2, h.free 3⟩
/-- A cell of an element is there, and may be written. -/
theorem own_at {w : World} {B e g n c : Nat} {xs : List PrL} (h : OwnC prC w B e 4 (.slice (some ⟨g, 0, none⟩) n c) xs) {i : Nat} (hi : i < xs.length) {j : Nat} (hj : j < 4) : (∃ u, w.cell? ⟨g, i * 4 + j, none⟩ = some u) ∧ w.frozen? ⟨g, i * 4 + j, none⟩ = false := by
  refine ⟨⟨(prC xs[i])[j]'(by rw [prC_len]; exact hj), ?_⟩, ?_⟩
  · rw [OwnC.cell prC_len h i j hi hj, List.getElem?_eq_getElem]
  · rcases h.2 with ⟨h0, _⟩ | ⟨g', c', cur, h1, h2, h3, _⟩
    · cases h0
    · injection h1 with e1 _ _
      injection e1 with e1
      injection e1 with e1
      subst e1
      simp [World.frozen?, h3]
/-- One round of the copy: the boxes, the row, the element's own box. -/
def CpR (w W : World) (d : ByteArray) (n : Int) (v : Value) (ps : List PrL) (pb : Nat) (x : PrL) : Prop := CpB w W d n v ∧ OwnC prC W (w.heap.size + 2) 43 4 v ps ∧ Arr W pb 43 [.string x.d, .int .i64 x.i, .int .i64 x.s, .string x.k]
theorem CpR.on {w W W2 : World} {d : ByteArray} {n : Int} {v : Value} {ps : List PrL} {pb : Nat} {x : PrL} (h : CpR w W d n v ps pb x) (hb : Below W.heap.size W W2) : CpR w W2 d n v ps pb x := ⟨h.1.on hb, h.2.1.on hb, arr_below h.2.2 hb⟩
theorem CpR.drew {w W : World} {d : ByteArray} {n : Int} {v : Value} {ps : List PrL} {pb : Nat} {x : PrL} (h : CpR w W d n v ps pb x) : CpR w W.drew d n v ps pb x := h.on (Below.refl _ _).drew
theorem CpR.put {w W : World} {d : ByteArray} {n : Int} {g N cc : Nat} {ps : List PrL} {pb : Nat} {x : PrL} (h : CpR w W d n (.slice (some ⟨g, 0, none⟩) N cc) ps pb x) {k : Nat} (j : Nat) (hk : k < ps.length) (hg : w.heap.size + 2 ≤ g) {u : Value} (hu : prC ps[k] = (prC ps[k]).set j u) (hne : pb ≠ g) (hj : j < 4 := by decide) :
    CpR w (W.setCell ⟨g, k * 4 + j, none⟩ u) d n (.slice (some ⟨g, 0, none⟩) N cc) ps pb x := by
  have h1 := OwnC.set prC_len h.2.1 k j hk hj hu
  rw [set_same] at h1
  exact ⟨h.1.other hg _ _, h1, arr_beside h.2.2 g _ _ hne⟩
theorem joined_same (s : ByteArray) (w : World) (hs : s.size ≤ 2000000) :
    Calls Tryd.prog 27 #[.slice (some ⟨w.heap.size, 0, none⟩) 1 1] (w.alloc (.cells #[.string s] 9)) fun e w' => e = .returned (.string s) ∧ Below w.heap.size w w' := by
  have h := impl_joined w.heap.size 1 [s] (w.alloc (.cells #[.string s] 9)) (by simp) (fun j hj => by
    have hj0 : j = 0 := by simp at hj; omega
    subst hj0
    exact (Arr.fresh w 9 [.string s]).cell 0) (by simp) (by rw [flat_one, size_data]; omega)
  rw [flat_one] at h
  exact h.mono fun e w' ⟨he, hb⟩ => ⟨by rw [he]; rfl, below_one hb⟩
set_option maxRecDepth 100000 in
set_option maxHeartbeats 1000000 in
theorem impl_dbcopy (d : ByteArray) (n : Int) (ps : List PrL) (p : Option Addr) (c B0 : Nat) (w : World) (hd : d.size ≤ 2000000) (hl : ps.length ≤ 1048576) (hw : ∀ x ∈ ps, x.d.size ≤ 2000000 ∧ x.k.size ≤ 2000000) (hO : OwnC prC w B0 43 4 (.slice p ps.length c) ps) :
    Calls Tryd.prog 39 #[dbV d n p ps.length c] w fun e w' => (∃ q k, e = .returned (dbV d n q ps.length k) ∧ OwnC prC w' w.heap.size 43 4 (.slice q ps.length k) ps) ∧ Below w.heap.size w w' := by
  have HO := Lib.hid (fun W (h : Below w.heap.size w W) => hO.on h)
  have HW := Lib.hid hw
  have i1 := joined_same d ((w.alloc (.cells #[.string d, .int .i64 n, .slice p ps.length c] 25)).alloc (.cells #[.string ⟨#[]⟩, .int .i64 0, .slice none 0 0] 25)) hd
  rw [World.size_alloc, World.size_alloc] at i1
  have i2 := fun W h => impl_clone ps p c B0 W hl h
  obtain ⟨N, hN⟩ : ∃ N, ps.length = N := ⟨_, rfl⟩
  have HN := Lib.hid hN
  rw [hN] at HO hl i1 i2 ⊢
  have HS := Lib.hid (cpb_start w d n (.slice p N c))
  clear hO hw hN
  unfold dbV
  go_enter Tryd.func39, Tryd.ntmps39
  go_wp2_with (first
    | (go_at_call 27; go_fit i1; rintro e w1 ⟨rfl, hb⟩; have HS1 := Lib.hid (HS.out.on (by rw [World.size_alloc, World.size_alloc]; exact hb)); clear hb; obtain ⟨c0, c1, c2, f0, f1, f2⟩ := arr_three HS1.out.1)
    | (go_at_call 48; go_fit (i2 _ (HO.out _ HS1.out.put0.2.2)); rintro e w2 ⟨⟨q, cc, rfl, hv⟩, hb⟩; have HS2 := Lib.hid (HS1.out.put0.on hb); have HV2 := Lib.hid (hv.mono (B' := w.heap.size + 2) (by have := arr_lt HS1.out.put0.2.1; omega)); clear hb hv; obtain ⟨c0, c1, c2, f0, f1, f2⟩ := arr_three HS2.out.1))
  go_loopw [17] (fun iq wr => ∃ k : Nat, k ≤ N ∧ iq = .int .i64 k ∧ CpB w wr d n (.slice q N cc) ∧ OwnC prC wr (w.heap.size + 2) 43 4 (.slice q N cc) ps) (fun i _ => N - (intOf i).toNat)
  case atStart => exact ⟨0, Nat.zero_le _, rfl, HS2.out.put2 _, HV2.out.low (a := ⟨w.heap.size, 2, none⟩) (by show w.heap.size < w.heap.size + 2; omega) _⟩
  case round =>
    clear HS HS1 HS2 HV2 c0 c1 c2 f0 f1 f2 i1 i2
    obtain ⟨k, hk, rfl, hS, hV⟩ := hrel
    by_cases hlt : k < N
    · have hlt' : k < ps.length := by rw [HN.out]; exact hlt
      have hR : RowC prC 4 wr q ps := by
        obtain ⟨p', k', e, hR⟩ := hV.row prC_len
        injection e with e1 e2 e3
        rw [e1]
        exact hR
      obtain ⟨g, rfl, hg, a0, a1, a2, a3⟩ := row4 hR hlt'
      obtain ⟨hx1, hx2⟩ := HW.out ps[k] (List.getElem_mem hlt')
      obtain ⟨x, hx⟩ : ∃ x, ps[k] = x := ⟨_, rfl⟩
      rw [hx] at a0 a1 a2 a3 hx1 hx2
      have HS := Lib.hid hS
      have HV := Lib.hid hV
      have HX := Lib.hid hx
      clear hS hV hR hx
      have hgB : w.heap.size + 2 ≤ g := by
        rcases HV.out.2 with ⟨h0, _⟩ | ⟨g', c', cur, h1, h2, _⟩
        · cases h0
        · injection h1 with e1 _ _
          injection e1 with e1
          injection e1 with e1
          subst e1
          exact h2
      have hgp : wr.heap.size ≠ g := by omega
      have HR0 : Hid (CpR w (wr.alloc (.cells #[.string x.d, .int .i64 x.i, .int .i64 x.s, .string x.k] 43)) d n (.slice (some ⟨g, 0, none⟩) N cc) ps wr.heap.size x) := Lib.hid ⟨HS.out.on ((Below.refl _ _).alloc (Nat.le_refl _) _), HV.out.alloc _, Arr.fresh wr _ [.string x.d, .int .i64 x.i, .int .i64 x.s, .string x.k]⟩
      go_wp2
      generalize wr.alloc _ = wa at HR0 ⊢
      refine wp_region_held_drew (S := fun W => Arr W w.heap.size 25 [.string d, .int .i64 n, .slice (some ⟨g, 0, none⟩) N cc] ∧ Arr W wr.heap.size 43 [.string x.d, .int .i64 x.i, .int .i64 x.s, .string x.k]) (by kernel_rfl) ⟨HR0.out.1.1, HR0.out.2.2⟩ (fun hHeld => ?_)
      refine takeQ (i := 0) (k := 22) (v := .pointer (some ⟨w.heap.size, 2, none⟩)) rfl (by rfl) (by kernel_rfl) (by kernel_rfl) (by kernel_rfl) (fun _ _ _ h => h) (by rfl) ?_ hHeld ?_
      · intro w1 hSw; go_simp
      (try simp only [Act.put, List.setIfInBounds_toArray, List.set_cons_zero, List.set_cons_succ])
      refine takeQ (i := 1) (k := 23) (v := .slice (some ⟨g, 0, none⟩) N cc) rfl (by rfl) (by kernel_rfl) (by kernel_rfl) (by kernel_rfl) (fun _ _ _ h => h) (by rfl) ?_ hHeld ?_
      · intro w1 hSw; obtain ⟨m0, m1, m2, _⟩ := arr_three hSw.1; go_simp
      (try simp only [Act.put, List.setIfInBounds_toArray, List.set_cons_zero, List.set_cons_succ])
      refine takeQ (i := 2) (k := 24) (v := .int .i64 (k : Int)) rfl (by rfl) (by kernel_rfl) (by kernel_rfl) (by kernel_rfl) (fun _ _ _ h => h) (by rfl) ?_ hHeld ?_
      · intro w1 hSw; go_simp
      (try simp only [Act.put, List.setIfInBounds_toArray, List.set_cons_zero, List.set_cons_succ])
      refine takeQ (i := 3) (k := 25) (v := .pointer (some ⟨wr.heap.size, 0, none⟩)) rfl (by rfl) (by kernel_rfl) (by kernel_rfl) (by kernel_rfl) (fun _ _ _ h => h) (by rfl) ?_ hHeld ?_
      · intro w1 hSw; go_simp
      (try simp only [Act.put, List.setIfInBounds_toArray, List.set_cons_zero, List.set_cons_succ])
      refine takeQ (i := 4) (k := 26) (v := .string x.d) rfl (by rfl) (by kernel_rfl) (by kernel_rfl) (by kernel_rfl) (fun _ _ _ h => h) (by rfl) ?_ hHeld ?_
      · intro w1 hSw; obtain ⟨⟨m0, m1, m2, m3⟩, _⟩ := arr_4p hSw.2; go_simp
      (try simp only [Act.put, List.setIfInBounds_toArray, List.set_cons_zero, List.set_cons_succ])
      have HR1 := Lib.hid (HR0.out.drew)
      generalize World.drew _ = wd at HR1 hHeld ⊢
      refine wpAnyH_ready (rs := [5]) (by kernel_rfl) (by simp) ?_
      refine AllReadyH.cons rfl (fun K hK => ?_) AllReadyH.nil
      rw [if_pos (by rfl)]
      go_simp
      have HR1a := Lib.hid (HR1.out.on ((Below.refl _ _).alloc (Nat.le_refl _) (.cells #[.string x.d] 9)))
      refine hK.out _ _ ⟨HR1a.out.1.1, HR1a.out.2.2⟩ (fun hHeld => ?_)
      clear hK K
      (try simp only [Act.put, List.setIfInBounds_toArray, List.set_cons_zero, List.set_cons_succ])
      refine wpAnyH_ready (rs := [6]) (by kernel_rfl) (by simp) ?_
      refine AllReadyH.cons rfl (fun K hK => ?_) AllReadyH.nil
      rw [if_pos (by rfl)]
      go_simp
      go_fit (joined_same x.d _ hx1)
      rintro e wm ⟨rfl, hb⟩
      have HR2 := Lib.hid (HR1.out.on hb)
      refine hK.out _ _ ⟨HR2.out.1.1, HR2.out.2.2⟩ (fun hHeld => ?_)
      clear hK K hb
      (try simp only [Act.put, List.setIfInBounds_toArray, List.set_cons_zero, List.set_cons_succ])
      refine takeQ (i := 7) (k := 29) (v := .pointer (some ⟨g, k * 4, none⟩)) rfl (by rfl) (by kernel_rfl) (by kernel_rfl) (by kernel_rfl) (fun _ _ _ h => h) (by rfl) ?_ hHeld ?_
      · intro w1 hSw; go_simp
      (try simp only [Act.put, List.setIfInBounds_toArray, List.set_cons_zero, List.set_cons_succ])
      refine takeQ (i := 8) (k := 30) (v := .pointer (some ⟨g, k * 4, none⟩)) rfl (by rfl) (by kernel_rfl) (by kernel_rfl) (by kernel_rfl) (fun _ _ _ h => h) (by rfl) ?_ hHeld ?_
      · intro w1 hSw; go_simp
      (try simp only [Act.put, List.setIfInBounds_toArray, List.set_cons_zero, List.set_cons_succ])
      obtain ⟨⟨uo, n0⟩, n1⟩ := own_at HR2.out.2.1 hlt' (j := 0) (by decide)
      (try simp only [Nat.add_zero] at n0 n1)
      refine wpAnyH_ready (rs := [9]) (by kernel_rfl) (by simp) ?_
      refine AllReadyH.cons rfl (fun K hK => ?_) AllReadyH.nil
      rw [if_pos (by rfl)]
      go_simp
      have HR2s := Lib.hid (HR2.out.put 0 hlt' hgB (u := .string x.d) (by rw [HX.out]; rfl) hgp)
      refine hK.out _ _ ⟨HR2s.out.1.1, HR2s.out.2.2⟩ (fun hHeld => ?_)
      clear hK K n0 n1 uo
      (try simp only [Act.put, List.setIfInBounds_toArray, List.set_cons_zero, List.set_cons_succ])
      refine wpAnyH_done (by kernel_rfl) ?_ _
      go_wp2
      rw [Nat.add_zero] at HR2s
      generalize wm.setCell _ _ = wb at HR2s ⊢
      refine wp_region_held_drew (S := fun W => Arr W w.heap.size 25 [.string d, .int .i64 n, .slice (some ⟨g, 0, none⟩) N cc] ∧ Arr W wr.heap.size 43 [.string x.d, .int .i64 x.i, .int .i64 x.s, .string x.k]) (by kernel_rfl) ⟨HR2s.out.1.1, HR2s.out.2.2⟩ (fun hHeld => ?_)
      refine takeQ (i := 0) (k := 31) (v := .pointer (some ⟨w.heap.size, 2, none⟩)) rfl (by rfl) (by kernel_rfl) (by kernel_rfl) (by kernel_rfl) (fun _ _ _ h => h) (by rfl) ?_ hHeld ?_
      · intro w1 hSw; go_simp
      (try simp only [Act.put, List.setIfInBounds_toArray, List.set_cons_zero, List.set_cons_succ])
      refine takeQ (i := 1) (k := 32) (v := .slice (some ⟨g, 0, none⟩) N cc) rfl (by rfl) (by kernel_rfl) (by kernel_rfl) (by kernel_rfl) (fun _ _ _ h => h) (by rfl) ?_ hHeld ?_
      · intro w1 hSw; obtain ⟨m0, m1, m2, _⟩ := arr_three hSw.1; go_simp
      (try simp only [Act.put, List.setIfInBounds_toArray, List.set_cons_zero, List.set_cons_succ])
      refine takeQ (i := 2) (k := 33) (v := .int .i64 (k : Int)) rfl (by rfl) (by kernel_rfl) (by kernel_rfl) (by kernel_rfl) (fun _ _ _ h => h) (by rfl) ?_ hHeld ?_
      · intro w1 hSw; go_simp
      (try simp only [Act.put, List.setIfInBounds_toArray, List.set_cons_zero, List.set_cons_succ])
      refine takeQ (i := 3) (k := 34) (v := .pointer (some ⟨wr.heap.size, 3, none⟩)) rfl (by rfl) (by kernel_rfl) (by kernel_rfl) (by kernel_rfl) (fun _ _ _ h => h) (by rfl) ?_ hHeld ?_
      · intro w1 hSw; go_simp
      (try simp only [Act.put, List.setIfInBounds_toArray, List.set_cons_zero, List.set_cons_succ])
      refine takeQ (i := 4) (k := 35) (v := .string x.k) rfl (by rfl) (by kernel_rfl) (by kernel_rfl) (by kernel_rfl) (fun _ _ _ h => h) (by rfl) ?_ hHeld ?_
      · intro w1 hSw; obtain ⟨⟨m0, m1, m2, m3⟩, _⟩ := arr_4p hSw.2; go_simp
      (try simp only [Act.put, List.setIfInBounds_toArray, List.set_cons_zero, List.set_cons_succ])
      have HR3 := Lib.hid (HR2s.out.drew)
      generalize World.drew _ = wd at HR3 hHeld ⊢
      refine wpAnyH_ready (rs := [5]) (by kernel_rfl) (by simp) ?_
      refine AllReadyH.cons rfl (fun K hK => ?_) AllReadyH.nil
      rw [if_pos (by rfl)]
      go_simp
      have HR3a := Lib.hid (HR3.out.on ((Below.refl _ _).alloc (Nat.le_refl _) (.cells #[.string x.k] 9)))
      refine hK.out _ _ ⟨HR3a.out.1.1, HR3a.out.2.2⟩ (fun hHeld => ?_)
      clear hK K
      (try simp only [Act.put, List.setIfInBounds_toArray, List.set_cons_zero, List.set_cons_succ])
      refine wpAnyH_ready (rs := [6]) (by kernel_rfl) (by simp) ?_
      refine AllReadyH.cons rfl (fun K hK => ?_) AllReadyH.nil
      rw [if_pos (by rfl)]
      go_simp
      go_fit (joined_same x.k _ hx2)
      rintro e wm ⟨rfl, hb⟩
      have HR4 := Lib.hid (HR3.out.on hb)
      refine hK.out _ _ ⟨HR4.out.1.1, HR4.out.2.2⟩ (fun hHeld => ?_)
      clear hK K hb
      (try simp only [Act.put, List.setIfInBounds_toArray, List.set_cons_zero, List.set_cons_succ])
      refine takeQ (i := 7) (k := 38) (v := .pointer (some ⟨g, k * 4, none⟩)) rfl (by rfl) (by kernel_rfl) (by kernel_rfl) (by kernel_rfl) (fun _ _ _ h => h) (by rfl) ?_ hHeld ?_
      · intro w1 hSw; go_simp
      (try simp only [Act.put, List.setIfInBounds_toArray, List.set_cons_zero, List.set_cons_succ])
      refine takeQ (i := 8) (k := 39) (v := .pointer (some ⟨g, k * 4 + 3, none⟩)) rfl (by rfl) (by kernel_rfl) (by kernel_rfl) (by kernel_rfl) (fun _ _ _ h => h) (by rfl) ?_ hHeld ?_
      · intro w1 hSw; go_simp
      (try simp only [Act.put, List.setIfInBounds_toArray, List.set_cons_zero, List.set_cons_succ])
      obtain ⟨⟨uo, n0⟩, n1⟩ := own_at HR4.out.2.1 hlt' (j := 3) (by decide)
      (try simp only [Nat.add_zero] at n0 n1)
      refine wpAnyH_ready (rs := [9]) (by kernel_rfl) (by simp) ?_
      refine AllReadyH.cons rfl (fun K hK => ?_) AllReadyH.nil
      rw [if_pos (by rfl)]
      go_simp
      have HR4s := Lib.hid (HR4.out.put 3 hlt' hgB (u := .string x.k) (by rw [HX.out]; rfl) hgp)
      refine hK.out _ _ ⟨HR4s.out.1.1, HR4s.out.2.2⟩ (fun hHeld => ?_)
      clear hK K n0 n1 uo
      (try simp only [Act.put, List.setIfInBounds_toArray, List.set_cons_zero, List.set_cons_succ])
      refine wpAnyH_done (by kernel_rfl) ?_ _
      go_wp2
      go_roundw
      case rel => exact ⟨k + 1, by omega, by go_num, HR4s.out.1, HR4s.out.2.1⟩
      case measure => simp [intOf]; omega
    · obtain rfl : k = N := by omega
      have HS := Lib.hid hS
      have HV := Lib.hid hV
      obtain ⟨c0, c1, c2, f0, f1, f2⟩ := arr_three hS.1
      obtain ⟨d0, d1, d2, e0, e1, e2⟩ := arr_three hS.2.1
      clear hS hV
      go_wp2
      have hE := cpb_end HS.out
      exact bodyPost_ret (v := dbV d n q k cc) (results_cell_row (P := Tryd.prog) Tryd.results39 _ _ (w.heap.size + 1) 25 _ (0, 0) _ rfl hE.1 Tryd.underlying25 rfl (by kernel_rfl)) rfl
        ⟨⟨q, cc, rfl, (((HV.out.low (a := ⟨w.heap.size + 1, 0, none⟩) (by show w.heap.size + 1 < w.heap.size + 2; omega) _).low (a := ⟨w.heap.size + 1, 1, none⟩) (by show w.heap.size + 1 < w.heap.size + 2; omega) _).low (a := ⟨w.heap.size + 1, 2, none⟩) (by show w.heap.size + 1 < w.heap.size + 2; omega) _).mono (by omega)⟩, hE.2⟩
set_option maxRecDepth 100000 in
set_option maxHeartbeats 1000000 in
theorem spec_dbcopy (d : ByteArray) (n : Int) (ps : List PrL) (p : Option Addr) (c B0 : Nat) (w : World) (hl : ps.length ≤ 1048576) (hO : OwnC prC w B0 43 4 (.slice p ps.length c) ps) :
    Calls Tryd.prog 32 #[dbV d n p ps.length c] w fun e w' => (∃ q k, e = .returned (dbV d n q ps.length k) ∧ OwnC prC w' w.heap.size 43 4 (.slice q ps.length k) ps) ∧ Below w.heap.size w w' := by
  have HO := Lib.hid (fun W (h : Below w.heap.size w W) => hO.on h)
  obtain ⟨N, hN⟩ : ∃ N, ps.length = N := ⟨_, rfl⟩
  have HN := Lib.hid hN
  rw [hN] at HO hl ⊢
  have HS := Lib.hid (cpb_start w d n (.slice p N c))
  obtain ⟨W0, hW0⟩ : ∃ W0, ((w.alloc (.cells #[.string d, .int .i64 n, .slice p N c] 25)).alloc (.cells #[.string ⟨#[]⟩, .int .i64 0, .slice none 0 0] 25)) = W0 := ⟨_, rfl⟩
  have hsz : W0.heap.size = w.heap.size + 1 + 1 := by rw [← hW0]; simp
  have he := empty_rowP W0
  rw [hsz, ← hW0] at he
  rw [hW0] at HS
  have HE := Lib.hid he
  have hb0 : Below w.heap.size w (W0.alloc (.cells #[] 43)) := HS.out.2.2.alloc HS.out.2.2.size _
  have HO1 := Lib.hid (HO.out _ hb0)
  have HS1 := Lib.hid (HS.out.on ((Below.refl _ _).alloc (Nat.le_refl _) (.cells #[] 43)))
  rw [← hW0] at HO1 HS1 hb0
  have HB0 := Lib.hid hb0
  clear hO hN he hb0 hW0 hsz HS HO
  unfold dbV
  go_enter Tryd.func32, Tryd.ntmps32
  go_wp2_with (at_builtin; refine wpList_app_rowP rfl _ _ rfl (w.heap.size + 1 + 1) _ [] rfl HE.out B0 _ _ _ ps rfl HO1.out (by rw [HN.out]; simp; omega) (by simp only [World.size_alloc]; omega) ?_; intro v' w' ho hg; rw [List.nil_append] at ho; obtain ⟨q, k, hv, _⟩ := ho.row prC_len; rw [HN.out] at hv; subst hv; have HV := Lib.hid ho; have HS2 : Hid (CpB w w' d n (.slice p N c)) := Lib.hid (HS1.out.grow hg (Nat.le_refl _)); clear ho hg; obtain ⟨c0, c1, c2, f0, f1, f2⟩ := arr_three HS2.out.1; obtain ⟨d0, d1, d2, e0, e1, e2⟩ := arr_three HS2.out.2.1)
  have hE := cpb_end (HS2.out.put2 (.slice q N k))
  exact bodyPost_ret (v := dbV d n q N k) (results_cell_row (P := Tryd.prog) Tryd.results32 _ _ (w.heap.size + 1) 25 _ (0, 0) _ rfl hE.1 Tryd.underlying25 rfl (by kernel_rfl)) rfl
    ⟨⟨q, k, rfl, ((((HV.out.low (a := ⟨w.heap.size, 2, none⟩) (by show w.heap.size < w.heap.size + 1 + 1; omega) _).low (a := ⟨w.heap.size + 1, 0, none⟩) (by show w.heap.size + 1 < w.heap.size + 1 + 1; omega) _).low (a := ⟨w.heap.size + 1, 1, none⟩) (by show w.heap.size + 1 < w.heap.size + 1 + 1; omega) _).low (a := ⟨w.heap.size + 1, 2, none⟩) (by show w.heap.size + 1 < w.heap.size + 1 + 1; omega) _).mono (by omega)⟩, hE.2⟩
end Go.Proofs.YtkjkfcljejjpbaaDoor
