/- Queues: a slice, at some offset, of a block of the call's own; append to it. -/
import Derived.Test.YtgfpcmfcnphalaaHfDropB
namespace Go.Proofs.Ytgfpcmfcnphalaa
set_option linter.unusedSimpArgs false
set_option linter.unusedVariables false
open Go.RowKit Go.Joins

/-- The slice v, in block g, holds these subs. -/
def QRow (w : World) (g : Nat) (v : Value) (q : List SbL) : Prop := ∃ off cap cur, v = .slice (some ⟨g, off, none⟩) q.length cap ∧ w.heap[g]? = some (.cells cur 32 (0, 0)) ∧ q.length ≤ cap ∧ cap ≤ maxLen ∧ off + cap * 2 ≤ cur.size ∧ (cur.toList.drop off).take (q.length * 2) = q.flatMap sbC
theorem q_new (w : World) : QRow (w.alloc (.cells #[] 32)) w.heap.size (.slice (some ⟨w.heap.size, 0, none⟩) 0 0) [] :=
  ⟨0, 0, #[], rfl, heap_alloc_new w _, Nat.le_refl _, Nat.zero_le _, Nat.le_refl _, rfl⟩
theorem QRow.same {w W : World} {g : Nat} {v : Value} {q : List SbL} (h : QRow w g v q) (hb : W.heap[g]? = w.heap[g]?) : QRow W g v q := by
  obtain ⟨off, cap, cur, h1, h2, h3⟩ := h
  exact ⟨off, cap, cur, h1, hb.trans h2, h3⟩
theorem QRow.lt {w : World} {g : Nat} {v : Value} {q : List SbL} (h : QRow w g v q) : g < w.heap.size := by
  obtain ⟨off, cap, cur, h1, h2, h3⟩ := h
  exact (Array.getElem?_eq_some_iff.1 h2).1
theorem QRow.on {w W : World} {g : Nat} {v : Value} {q : List SbL} (h : QRow w g v q) (hb : Below w.heap.size w W) : QRow W g v q := h.same (hb.block g h.lt)
/-- The cells of an element. -/
theorem QRow.cell {w : World} {g off n cap : Nat} {q : List SbL} (h : QRow w g (.slice (some ⟨g, off, none⟩) n cap) q) {i : Nat} (hi : i < q.length) {j : Nat} (hj : j < 2) : w.cell? ⟨g, off + (i * 2 + j), none⟩ = (sbC q[i])[j]? := by
  obtain ⟨off', cap', cur, h1, h2, h3, h4, h5, h6⟩ := h
  injection h1 with h1 h7 h8
  injection h1 with h1
  injection h1 with _ h1
  subst h1
  have hf := flat_at (enc := sbC) (size := 2) sbC_len q i j hi hj
  rw [← h6, List.getElem?_take] at hf
  rw [if_pos (by omega), List.getElem?_drop] at hf
  rw [cell_of_row w g (off + (i * 2 + j)) cur 32 (0, 0) h2]
  simpa using hf
/-- Its first element is taken off. -/
theorem QRow.tail {w : World} {g off n cap : Nat} {x : SbL} {q : List SbL} (h : QRow w g (.slice (some ⟨g, off, none⟩) n cap) (x :: q)) : QRow w g (.slice (some ⟨g, off + 2, none⟩) q.length (cap - 1)) q := by
  obtain ⟨off', cap', cur, h1, h2, h3, h4, h5, h6⟩ := h
  injection h1 with h1 h7 h8
  injection h1 with h1
  injection h1 with _ h1
  subst h1 h8
  have h3' : q.length + 1 ≤ cap := h3
  refine ⟨off + 2, cap - 1, cur, rfl, h2, by omega, by omega, by omega, ?_⟩
  have h7 : List.drop 2 (List.take ((x :: q).length * 2) (List.drop off cur.toList)) = q.flatMap sbC := (congrArg (List.drop 2) h6).trans rfl
  rw [List.drop_take, List.drop_drop] at h7
  rw [← h7]
  congr 1
  show q.length * 2 = (q.length + 1) * 2 - 2
  omega
theorem q_empty {w : World} {g off cap : Nat} {x : SbL} (h : QRow w g (.slice (some ⟨g, off, none⟩) 1 cap) [x]) (k : Nat) (hk : k ≤ cap - 1) : QRow w g (.slice (some ⟨g, off, none⟩) 0 k) [] := by
  obtain ⟨off', cap', cur, h1, h2, h3, h4, h5, h6⟩ := h
  injection h1 with h1 h7 h8
  injection h1 with h1
  injection h1 with _ h1
  subst h1 h8
  exact ⟨off, k, cur, rfl, h2, Nat.zero_le _, by omega, by omega, rfl⟩
theorem run_append_room_at {P : Program} (w : World) (t ty e : TypeId) (i : TypeInfo) (ht : P.underlying t = some (.slice e)) (hi : P.info? e = some i)
    (g off sLen sCap : Nat) (cur : Array Value) (hg : w.heap[g]? = some (.cells cur e (0, 0)))
    (a : Addr) (m c : Nat) (news : List Value) (hl : news.length = m * i.size) (hnews : ∀ j u, news[j]? = some u → w.cell? (a.add j) = some u) (h1 : ∀ u ∈ news, u.oneCell' = true)
    (hroom : sLen + m ≤ sCap) (hfit : off + sLen * i.size + news.length ≤ cur.size) :
    (Builtin.append_ #[t, t] ty #[.slice (some ⟨g, off, none⟩) sLen sCap, .slice (some a) m c]).run P w =
      .ok (.slice (some ⟨g, off, none⟩) (sLen + m) sCap) (w.setRow g (cur.toList.take (off + sLen * i.size) ++ news ++ cur.toList.drop (off + sLen * i.size + news.length)).toArray) := by
  have hf := run_firstCells_some (P := P) w i.size m a m c news hl hnews
  have hst := run_storeCells_at P g (off + sLen * i.size) e news 0 cur w hg (by simpa using hfit) h1
  simp only [Nat.add_zero] at hst
  simp [Builtin.append_, run_underlying ht, sizeOf, typeInfo, hi, Builtin.lenOf, hroom, hf, Addr.add_lit, hst]
theorem run_app_q (w : World) (g : Nat) (v : Value) (q : List SbL) (x : SbL) (ty : TypeId) (hq : QRow w g v q) (a : Addr) (c : Nat) (hx : ∀ j u, (sbC x)[j]? = some u → w.cell? (a.add j) = some u) (hn : q.length ≤ 1000000) :
    ∃ g' v' w', (Builtin.append_ #[27, 27] ty #[v, .slice (some a) 1 c]).run Try.prog w = .ok v' w' ∧ QRow w' g' v' (q ++ [x]) ∧ (g' = g ∨ w.heap.size ≤ g') ∧ w.grownBy w' (some g) := by
  obtain ⟨i0, hi, hz0, hz1, hz2⟩ := info_parts info_sbH
  obtain ⟨off, cap, cur, rfl, hg, hcap, hcm, hsz, htk⟩ := hq
  have hlq : (q.flatMap sbC).length = q.length * 2 := flat_len sbC_len q
  by_cases hroom : q.length + 1 ≤ cap
  · have hr := run_append_room_at (P := Try.prog) w 27 ty 32 i0 Try.underlying27 hi g off q.length cap cur hg a 1 c (sbC x) (by rw [hz1]; rfl) hx (sbC_one x) hroom (by rw [hz1, sbC_len]; omega)
    rw [hz1] at hr
    refine ⟨g, _, _, hr, ⟨off, cap, _, by rw [List.length_append]; rfl, setRow_heap w g cur _ _ _ hg, by rw [List.length_append]; exact hroom, hcm, ?_, ?_⟩, .inl rfl, ⟨rfl, rfl, rfl, by simp, fun k _ hk => setRow_other w g k _ (fun e => hk (by rw [e]))⟩⟩
    · simp only [List.size_toArray, List.length_append, List.length_take, List.length_drop, Array.length_toList, sbC_len]
      omega
    · have hlc : cur.toList.length = cur.size := Array.length_toList
      rw [List.length_append, List.flatMap_append, ← htk]
      show List.take ((q.length + 1) * 2) (List.drop off (cur.toList.take (off + q.length * 2) ++ sbC x ++ cur.toList.drop (off + q.length * 2 + (sbC x).length))) = _
      rw [List.append_assoc, List.drop_append_of_le_length (by rw [List.length_take]; omega), List.drop_take, show off + q.length * 2 - off = q.length * 2 by omega]
      have hl2 : ((cur.toList.drop off).take (q.length * 2)).length = q.length * 2 := by rw [htk, hlq]
      rw [← List.append_assoc, List.take_append_of_le_length (by rw [List.length_append, hl2, sbC_len]; omega), List.take_of_length_le (by rw [List.length_append, hl2, sbC_len]; omega)]
      simp
  · have holds : ∀ j u, (q.flatMap sbC)[j]? = some u → w.cell? ((⟨g, off, none⟩ : Addr).add j) = some u := by
      intro j u hu
      rw [Addr.add_lit, cell_of_row w g (off + j) cur 32 (0, 0) hg]
      rw [← htk, List.getElem?_take] at hu
      split at hu
      · rw [List.getElem?_drop] at hu
        simpa using hu
      · cases hu
    have hr := run_append_grow (P := Try.prog) w 27 ty 32 i0 _ Try.underlying27 hi hz0 ⟨g, off, none⟩ q.length cap (q.flatMap sbC) (by rw [hz1, hlq]) holds a 1 c (sbC x) (by rw [hz1]; rfl) hx (by omega) (by omega) (by rw [hz2]; exact growslice_fits (by omega) (by omega))
    have hge := grownCap_ge w (q.length + 1) cap 32
    have hcm2 : grownCap w (q.length + 1) cap 32 ≤ maxLen := grownCap_le_maxLen w (q.length + 1) cap 32 (by unfold maxLen; omega)
    refine ⟨w.heap.size, _, _, hr, ⟨0, _, _, by rw [List.length_append]; rfl, heap_alloc_new w.drew _, by rw [List.length_append]; exact hge, hcm2, ?_, ?_⟩, .inr (Nat.le_refl _), ⟨rfl, rfl, rfl, by simp, fun k hk _ => heap_alloc_old w.drew _ hk⟩⟩
    · simp only [Array.size_append, List.size_toArray, size_zeroCells, hlq, sbC_len]
      show 0 + _ * 2 ≤ _ + (_ - _) * 2
      omega
    · rw [List.drop_zero, List.length_append, List.flatMap_append]
      simp only [Array.toList_append]
      rw [List.take_append_of_le_length (by simp [hlq, sbC_len]; omega), List.take_of_length_le (by simp [hlq, sbC_len]; omega)]
      simp
theorem wpList_app_q (w : World) {ops : Array Oper} {rest : List Oper} {o : Oper} {a : Act} {Q : Exit → Act → World → Prop} (hgd : o.guard = none) (s x : Operand)
    (ho : o.op = Op.call { callee := Callee.builtin Builtin.append, args := #[s, x], argTypes := #[27, 27] })
    (g : Nat) (v : Value) (q : List SbL) (y : SbL) (hs : a.eval s = v) (hq : QRow w g v q) (B2 : Nat) (p : Option Addr) (c : Nat) (hx : a.eval x = .slice p 1 c) (hrow : OwnC sbC w B2 32 2 (.slice p 1 c) [y]) (hn : q.length ≤ 1000000)
    (h : ∀ g' v' w', QRow w' g' v' (q ++ [y]) → (g' = g ∨ w.heap.size ≤ g') → w.grownBy w' (some g) → wpList Try.prog ops Q rest (a.put o.dst v') w') : wpList Try.prog ops Q (o :: rest) a w := by
  rcases hrow.2 with ⟨e, h0'⟩ | ⟨gg, cap, cur, e, h1, h2, h3, h4, h5, h6⟩
  · injection e with _ e _
    cases e
  · injection e with e _ e2
    subst e
    obtain ⟨g', v', w', hr, h7, h8, h9⟩ := run_app_q w g v q y o.type hq ⟨gg, 0, none⟩ c (fun j u hj => by
      have := World.ownsRow.cells hrow (g := gg) rfl j u (by simpa using hj)
      exact this) hn
    refine wpList_plain hgd fun K hK => ?_
    unfold Oper.wp execOp
    simp only [ho, resolve, invoke, builtin, Sem.run_bind, Sem.run_pure, Result.andThen_ok, List.map_toArray, List.map_cons, List.map_nil, hs, hx, hr]
    exact hK _ _ (h g' v' w' h7 h8 h9)
end Go.Proofs.Ytgfpcmfcnphalaa
