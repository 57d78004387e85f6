/- What both ways of dropping a half carry along. -/
import Derived.Test.YtgfpcmfcnphalaaHfSay
import Derived.Test.YtgfpcmfcnphalaaHfHearI
namespace Go.Proofs.Ytgfpcmfcnphalaa
set_option linter.unusedSimpArgs false
set_option linter.unusedVariables false
open Go.RowKit Go.Joins

theorem info_sbH : (Try.prog.info? 32).map (fun i => (i.zero, i.size, i.bytes)) = some (some (.agg #[.int .i64 0, .int .i64 0]), 2, 16) := by kernel_rfl
theorem sb_all (xs : List SbL) : ∀ u ∈ xs.flatMap sbC, u.oneCell' = true := by
  intro u hu
  obtain ⟨x, _, hx⟩ := List.mem_flatMap.1 hu
  exact sbC_one x u hx
/-- append(v, row...), the row not empty. -/
theorem app_rowH (w : World) {ops : Array Oper} {rest : List Oper} {o : Oper} {a : Act} {Q : Exit → Act → World → Prop} (hgd : o.guard = none) (s x : Operand)
    (ho : o.op = Op.call { callee := Callee.builtin Builtin.append, args := #[s, x], argTypes := #[27, 27] })
    (B : Nat) (v : Value) (ys : List SbL) (hs : a.eval s = v) (hown : OwnC sbC w B 32 2 v ys) (B2 : Nat) (p : Option Addr) (c n : Nat) (xs : List SbL) (hn : xs.length = n) (hx : a.eval x = .slice p n c) (hrow : OwnC sbC w B2 32 2 (.slice p n c) xs) (h0 : 0 < n)
    (hlen : ys.length + xs.length ≤ 2000000) (hB : B ≤ w.heap.size)
    (h : ∀ v' w', OwnC sbC w' B 32 2 v' (ys ++ xs) → w.grownBy w' v.ownBlock → wpList Try.prog ops Q rest (a.put o.dst v') w') : wpList Try.prog ops Q (o :: rest) a w := by
  obtain ⟨i0, hi, hz0, hz1, hz2⟩ := info_parts info_sbH
  subst hn
  rcases hrow.2 with ⟨e, h0'⟩ | ⟨g, cap, cur, e, h1, h2, h3, h4, h5, h6⟩
  · omega
  · have hc := hrow
    rw [e] at hx hc
    refine wpList_append_own w hgd s x 27 ho B 32 i0 _ 2 16 Try.underlying27 hi hz0 hz1 hz2 rfl (by decide) v ys.length (ys.flatMap sbC) hs hown ⟨g, 0, none⟩ xs.length cap (xs.flatMap sbC) hx hc.1 (fun j u hj => ?_) (sb_all xs) (by unfold maxLen; omega) (by omega) hB (fun v' w' h1 h2 _ => h v' w' ?_ h2)
    · have hlt : j < xs.length * 2 := by
        have := (List.getElem?_eq_some_iff.1 hj).1
        rw [hc.1] at this
        exact this
      have := World.ownsRow.cellAt hc j hlt
      rw [hj] at this
      rw [show (⟨g, 0, none⟩ : Addr).add j = ⟨g, j, none⟩ by unfold Addr.add; split <;> simp_all]
      exact this
    · show w'.ownsRow B _ 2 v' (ys ++ xs).length ((ys ++ xs).flatMap sbC)
      rw [List.length_append, List.flatMap_append]
      exact h1
abbrev drC (h : HfL) (v : Value) : List Value := [.int .i64 h.n, .int .i64 h.o, .int .i64 h.t, .int .i64 h.i, .int .i64 h.f, v, .int .i64 0]
/-- The first boxes; the answer in the making, in block b; its row. -/
structure DrS (w W : World) (l : List (Nat × List Value)) (b : Nat) (h : HfL) (v : Value) (xs : List SbL) : Prop where
  bx : Bx w W l
  hb : w.heap.size + l.length ≤ b
  arr : Arr W b 29 (drC h v)
  own : OwnC sbC W (b + 2) 32 2 v xs
theorem DrS.on {w W W2 : World} {l : List (Nat × List Value)} {b : Nat} {h : HfL} {v : Value} {xs : List SbL} (d : DrS w W l b h v xs) (hb : Below W.heap.size W W2) : DrS w W2 l b h v xs :=
  ⟨d.bx.on hb, d.hb, (hb.block _ (arr_ltH d.arr)).trans d.arr, d.own.on hb⟩
theorem DrS.low {w W W2 : World} {l : List (Nat × List Value)} {b : Nat} {h : HfL} {v : Value} {xs : List SbL} (d : DrS w W l b h v xs) (hg : W.grownBy W2 v.ownBlock) : Bx w W2 l ∧ Arr W2 b 29 (drC h v) := by
  have hB : ∀ k, v.ownBlock = some k → b + 2 ≤ k := own_base d.own
  have hlt := arr_ltH d.arr
  have hk : ∀ k, k < b + 2 → k < W.heap.size → W2.heap[k]? = W.heap[k]? := fun k hk h2 => hg.block k h2 (fun e => by have := hB k e.symm; omega)
  refine ⟨⟨Below.grown d.bx.1 hg d.bx.1.size (fun k e => by have := hB k e; have := d.hb; omega), fun k hl => ?_⟩, (hk b (by omega) hlt).trans d.arr⟩
  have h1 := d.bx.2 k hl
  exact (hk _ (by have := d.hb; omega) (arr_ltH h1)).trans h1
theorem arr_farH {w : World} {b t g i : Nat} {cs : List Value} (h : Arr w b t cs) (hne : b ≠ g) (u : Value) : Arr (w.setCell ⟨g, i, none⟩ u) b t cs := (heap_setCell_other w ⟨g, i, none⟩ b u hne).trans h
theorem own_farH {w : World} {B g i : Nat} {v : Value} {xs : List SbL} (h : OwnC sbC w B 32 2 v xs) (hg : g < B) (u : Value) : OwnC sbC (w.setCell ⟨g, i, none⟩ u) B 32 2 v xs := h.low (a := ⟨g, i, none⟩) hg u
theorem Bx.farH {w W : World} {l : List (Nat × List Value)} (h : Bx w W l) {b i : Nat} (hb : w.heap.size + l.length ≤ b) (u : Value) : Bx w (W.setCell ⟨b, i, none⟩ u) l :=
  ⟨h.1.setCell (p := ⟨b, i, none⟩) (by show w.heap.size ≤ b; omega) u, fun k hk => arr_farH (h.2 k hk) (by omega) u⟩
/-- The answer's row is changed. -/
theorem DrS.send {w W W2 : World} {l : List (Nat × List Value)} {b : Nat} {h : HfL} {v v2 : Value} {xs ys : List SbL} (d : DrS w W l b h v xs) (hg : W.grownBy W2 v.ownBlock) (ho : OwnC sbC W2 (b + 2) 32 2 v2 ys) : DrS w (W2.setCell ⟨b, 5, none⟩ v2) l b h v2 ys :=
  ⟨(d.low hg).1.farH d.hb _, d.hb, (d.low hg).2.put 5 v2, own_farH ho (by omega) _⟩
theorem dr_cells {W : World} {b t : Nat} {h : HfL} {v : Value} (hA : Arr W b t (drC h v)) :
    (W.cell? ⟨b, 0, none⟩ = some (.int .i64 h.n) ∧ W.cell? ⟨b, 1, none⟩ = some (.int .i64 h.o) ∧ W.cell? ⟨b, 2, none⟩ = some (.int .i64 h.t) ∧ W.cell? ⟨b, 3, none⟩ = some (.int .i64 h.i) ∧ W.cell? ⟨b, 4, none⟩ = some (.int .i64 h.f) ∧ W.cell? ⟨b, 5, none⟩ = some v ∧ W.cell? ⟨b, 6, none⟩ = some (.int .i64 0)) ∧
    (W.frozen? ⟨b, 0, none⟩ = false ∧ W.frozen? ⟨b, 1, none⟩ = false ∧ W.frozen? ⟨b, 2, none⟩ = false ∧ W.frozen? ⟨b, 3, none⟩ = false ∧ W.frozen? ⟨b, 4, none⟩ = false ∧ W.frozen? ⟨b, 5, none⟩ = false) :=
  ⟨⟨hA.cell 0, hA.cell 1, hA.cell 2, hA.cell 3, hA.cell 4, hA.cell 5, hA.cell 6⟩, hA.free 0, hA.free 1, hA.free 2, hA.free 3, hA.free 4, hA.free 5⟩
end Go.Proofs.Ytgfpcmfcnphalaa
