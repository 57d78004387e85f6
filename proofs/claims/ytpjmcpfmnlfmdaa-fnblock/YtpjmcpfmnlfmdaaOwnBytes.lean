/- A slice of bytes of the call's own, told by its cells: made out of a string or a literal, appended to. -/
import Derived.Test.YtpjmcpfmnlfmdaaChecked
import Derived.Test.YtpjmcpfmnlfmdaaMath
import Derived.ArgAppend
import Derived.Deep.MidRow
import Derived.Laws.IdiomStrings
namespace Go.Proofs.Ytpjmcpfmnlfmdaa
set_option linter.unusedSimpArgs false
set_option linter.unusedVariables false
open Go.RowKit

/-- v holds the bytes l, in a block from B on; up to its capacity the cells are there and may be written. -/
def OwnB (w : World) (B : Nat) (v : Value) (l : List UInt8) : Prop := ∃ g cap, v = .slice (some ⟨g, 0, none⟩) l.length cap ∧ B ≤ g ∧ g < w.heap.size ∧ l.length ≤ cap ∧
  (∀ j (h : j < l.length), w.cell? ⟨g, j, none⟩ = some (byteV l[j])) ∧ ∀ j, j < cap → (w.cell? ⟨g, j, none⟩).isSome = true ∧ w.frozen? ⟨g, j, none⟩ = false
theorem OwnB.kept {w w' : World} {B B' : Nat} {v : Value} {l : List UInt8} (h : OwnB w B v l) (hb : Below B' w w') (hB : w.heap.size ≤ B') : OwnB w' B v l := by
  obtain ⟨g, cap, h1, h2, h3, h4, h5, h6⟩ := h
  have hg : g < B' := Nat.lt_of_lt_of_le h3 hB
  exact ⟨g, cap, h1, h2, Nat.lt_of_lt_of_le h3 hb.size, h4, fun j hj => (hb.cell (p := ⟨g, j, none⟩) hg).trans (h5 j hj), fun j hj => by rw [hb.cell (p := ⟨g, j, none⟩) hg, hb.frozen (p := ⟨g, j, none⟩) hg]; exact h6 j hj⟩
theorem OwnB.alloc {w : World} {B : Nat} {v : Value} {l : List UInt8} (h : OwnB w B v l) (o : Obj) : OwnB (w.alloc o) B v l := h.kept ((Below.refl w.heap.size w).alloc (Nat.le_refl _) o) (Nat.le_refl _)
theorem OwnB.mono {w : World} {B B' : Nat} {v : Value} {l : List UInt8} (h : OwnB w B v l) (hB : B' ≤ B) : OwnB w B' v l := by
  obtain ⟨g, cap, h1, h2, h3⟩ := h
  exact ⟨g, cap, h1, Nat.le_trans hB h2, h3⟩
theorem below_setCells {B g : Nat} (hg : B ≤ g) : ∀ (vs : List Value) (o : Nat) (a w : World), Below B a w → Below B a (w.setCells g o vs)
  | [], _, _, _, h => h
  | v :: r, o, a, _, h => below_setCells hg r (o + 1) a _ (h.setCell (p := ⟨g, o, none⟩) hg v)
theorem size_setCells (g : Nat) : ∀ (vs : List Value) (o : Nat) (w : World), (w.setCells g o vs).heap.size = w.heap.size
  | [], _, _ => rfl
  | v :: r, o, w => by
    rw [World.setCells, size_setCells g r (o + 1)]
    simp [World.setCell]
theorem ownB_row {w : World} {B e : Nat} {v : Value} {l : List UInt8} {n : Nat} (h : w.ownsRow B e 1 v n (l.map byteV)) (h0 : 0 < n) : OwnB w B v l := by
  have hl : l.length = n := by have := h.1; simp at this; omega
  rcases h.2 with ⟨_, h1⟩ | ⟨g, cap, cur, rfl, hb, hg, h1, h2, h3, h4⟩
  · omega
  · have hc : ∀ j, w.cell? ⟨g, j, none⟩ = cur[j]? := fun j => cell_of_row w g j cur e (0, 0) hg
    refine ⟨g, cap, by rw [hl], hb, (Array.getElem?_eq_some_iff.1 hg).1, by omega, fun j hj => ?_, fun j hj => ⟨?_, ?_⟩⟩
    · rw [hc j, ← Array.getElem?_toList]
      have h5 : (cur.toList.take (n * 1))[j]? = (l.map byteV)[j]? := by rw [h4]
      rw [List.getElem?_take_of_lt (by omega)] at h5
      rw [h5, List.getElem?_map, List.getElem?_eq_getElem hj]
      rfl
    · rw [hc j, Array.getElem?_eq_getElem (by omega)]
      rfl
    · simp [World.frozen?, hg]
theorem ownB_none (w : World) (e : TypeId) : OwnB (w.alloc (.cells #[] e)) w.heap.size (.slice (some ⟨w.heap.size, 0, none⟩) 0 0) [] :=
  ⟨w.heap.size, 0, rfl, Nat.le_refl _, by simp, Nat.le_refl _, fun j hj => absurd hj (Nat.not_lt_zero _), fun j hj => absurd hj (Nat.not_lt_zero _)⟩
theorem info_u8o : (Try.prog.info? 5).map (fun i => (i.zero, i.size, i.bytes)) = some (some (.int .u8 0), 1, 1) := by kernel_rfl
/-- append(v, news...), v of the call's own. -/
theorem wpList_append_B (w : World) {ops : Array Oper} {rest : List Oper} {o : Oper} {a : Act} {Q : Exit → Act → World → Prop} (hgd : o.guard = none) (s x : Operand)
    (ho : o.op = Op.call { callee := Callee.builtin Builtin.append, args := #[s, x], argTypes := #[22, 22] })
    (B : Nat) (v : Value) (l : List UInt8) (hs : a.eval s = v) (hown : OwnB w B v l) (ad : Addr) (m c : Nat) (nl : List UInt8) (hx : a.eval x = .slice (some ad) m c) (hm : nl.length = m)
    (hnews : ∀ j u, (nl.map byteV)[j]? = some u → w.cell? (ad.add j) = some u) (hmax : l.length + m ≤ 1000000) (hm0 : 0 < m)
    (h : ∀ v' w', OwnB w' B v' (l ++ nl) → Below B w w' → wpList Try.prog ops Q rest (a.put o.dst v') w') : wpList Try.prog ops Q (o :: rest) a w := by
  obtain ⟨g, cap, rfl, hB, hg, hl, hc, ht⟩ := hown
  obtain ⟨i0, hi, hz0, hz1, hz2⟩ := info_parts info_u8o
  refine wpList_append_arg w hgd s x 22 ho 5 i0 (.int .u8 0) 1 1 Try.underlying22 hi hz0 hz1 hz2 rfl (by decide) g 0 l.length cap (l.map byteV) hs (by simp) (fun j u hj => ?_) ad m c (nl.map byteV) hx (by simp [hm]) hnews (fun u hu => ?_) (fun hr j hj => ?_) (by unfold maxLen; omega) (by omega) (fun hr => ?_) (fun hr v' w' h1 h2 => ?_)
  · rw [Nat.zero_add]
    have hj' : j < l.length := by have := (List.getElem?_eq_some_iff.1 hj).1; simpa using this
    rw [hc j hj', ← hj, List.getElem?_map, List.getElem?_eq_getElem hj']
    rfl
  · obtain ⟨y, _, rfl⟩ := List.mem_map.1 hu
    rfl
  · rw [Nat.zero_add, Nat.mul_one]
    exact ht _ (by rw [List.length_map, hm] at hj; omega)
  · rw [Nat.zero_add, Nat.mul_one]
    have hnm : (nl.map byteV).length = m := by rw [List.length_map, hm]
    refine h _ _ ⟨g, cap, by rw [List.length_append, hm], hB, by rw [size_setCells]; exact hg, by rw [List.length_append, hm]; exact hr, fun j hj => ?_, fun j hj => ⟨World.isSome_setCells g _ _ w _ (ht j hj).1, by rw [World.frozen?_setCells]; exact (ht j hj).2⟩⟩ (below_setCells hB _ _ _ _ (Below.refl _ _))
    by_cases hj1 : j < l.length
    · rw [World.cell?_setCells_out g _ _ w ⟨g, j, none⟩ (fun _ _ => Or.inl hj1), List.getElem_append_left hj1]
      exact hc j hj1
    · have hj2 : j < l.length + m := by rw [List.length_append, hm] at hj; exact hj
      have h3 := World.cell?_setCells_in g (nl.map byteV) l.length w (fun i hi => (ht _ (by rw [hnm] at hi; omega)).1) (j - l.length) (by rw [hnm]; omega)
      rw [show l.length + (j - l.length) = j by omega] at h3
      rw [h3, List.getElem_append_right (by omega), List.getElem_map]
  · have h3 : w'.ownsRow w.heap.size 5 1 v' (l.length + m) ((l ++ nl).map byteV) := by rw [List.map_append]; exact h1
    refine h _ _ ((ownB_row h3 (by omega)).mono (by omega)) ((Below.refl B w).grown h2 (by omega) (fun k hk => by cases hk))
/-- []byte(s). -/
theorem wpList_bytes (w : World) {ops : Array Oper} {rest : List Oper} {o : Oper} {a : Act} {Q : Exit → Act → World → Prop} (hgd : o.guard = none) (x : Operand)
    (ho : o.op = .convert 9 22 x) (s : ByteArray) (hx : a.eval x = .string s)
    (h : ∀ v W, OwnB W w.heap.size v s.data.toList → Below w.heap.size w W → wpList Try.prog ops Q rest (a.put o.dst v) W) : wpList Try.prog ops Q (o :: rest) a w := by
  refine wpList_plain hgd fun K hK => ?_
  have hrun := run_bytes_of_string (P := Try.prog) w 9 22 5 s Try.underlying9 Try.underlying22 Try.underlying5
  obtain ⟨cap, hcap⟩ : ∃ cap, cap = grownCap w s.size 0 5 := ⟨_, rfl⟩
  have hge : s.size ≤ cap := by rw [hcap]; exact grownCap_ge w s.size 0 _
  rw [← hcap] at hrun
  have hl : s.data.toList.length = s.size := by rw [Array.length_toList]; rfl
  have hsz : (bytesRow s cap).size = cap := by
    unfold bytesRow
    rw [Array.size_append, Array.size_map, Array.size_replicate]
    have : s.data.size = s.size := rfl
    omega
  unfold Oper.wp execOp
  simp only [ho, hx, Sem.run_bind, hrun, Result.andThen_ok]
  refine hK _ _ (h _ _ ⟨w.heap.size, cap, by rw [hl], Nat.le_refl _, by simp, by omega, fun j hj => ?_, fun j hj => ⟨?_, ?_⟩⟩ (((Below.refl _ _).drew).alloc (Nat.le_refl _) _))
  · have := World.cell?_alloc_mark w.drew (bytesRow s cap) 5 ((bytesRow s cap).size, (bytesRow s cap).size + 1) j
    refine this.trans ?_
    unfold bytesRow
    rw [Array.getElem?_append_left (by rw [Array.size_map]; rw [Array.length_toList] at hj; exact hj), Array.getElem?_map, Array.getElem?_eq_getElem (by rw [Array.length_toList] at hj; exact hj)]
    rfl
  · have := World.cell?_alloc_mark w.drew (bytesRow s cap) 5 ((bytesRow s cap).size, (bytesRow s cap).size + 1) j
    refine (congrArg Option.isSome this).trans ?_
    rw [Array.getElem?_eq_getElem (by omega)]
    rfl
  · refine (World.frozen?_alloc_mark w.drew (bytesRow s cap) 5 _ _ j).trans ?_
    rw [hsz]
    simp
    omega
/-- string(v), v of the call's own. -/
theorem run_string_B {w : World} {B : Nat} {v : Value} {l : List UInt8} (h : OwnB w B v l) : (convert 22 9 v).run Try.prog w = .ok (.string (strOf l)) w := by
  obtain ⟨g, cap, rfl, _, _, _, hc, _⟩ := h
  exact run_convert_bytes_back w 22 9 5 ⟨g, 0, none⟩ cap l Try.underlying22 Try.underlying5 Try.underlying9 (fun j hj => by
    rw [show (⟨g, 0, none⟩ : Addr).add j = ⟨g, j, none⟩ by unfold Addr.add; split <;> simp_all]
    exact hc j hj)
end Go.Proofs.Ytpjmcpfmnlfmdaa
