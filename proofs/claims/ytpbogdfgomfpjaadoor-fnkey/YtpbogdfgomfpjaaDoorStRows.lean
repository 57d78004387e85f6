/- Runes of a string; rows of strings that a call makes. -/
import Derived.Test.YtpbogdfgomfpjaaDoorStEscS
import Derived.Test.YtpbogdfgomfpjaaDoorStHand
import Derived.Lib.OthersKept
import Derived.Laws.RangeAny
import Derived.WalkSmall
namespace Go.Proofs.YtpbogdfgomfpjaaDoor
set_option linter.unusedSimpArgs false
set_option linter.unusedVariables false
open Go.RowKit Go.Maps

theorem get_to (s : ByteArray) (j : Nat) (h : j < s.size) : (s.get! j) = s[j] := by
  simp [ByteArray.get!, getElem!_pos, h]
  rfl
/-- A rune of more than one byte: its bytes are all beyond ASCII, and it ends in the string. -/
theorem decode_wide (s : ByteArray) (pos : Nat) (h : pos < s.size) (ha : 128 ≤ (s[pos]'h).toNat) :
    pos + (Utf8.decode s pos).2 ≤ s.size ∧ ∀ j (hj : j < s.size), pos ≤ j → j < pos + (Utf8.decode s pos).2 → 128 ≤ (s[j]'hj).toNat := by
  have h0 : ¬ (s.get! (pos + 0)).toNat < 128 := by rw [Nat.add_zero, get_to s pos h]; omega
  have one : ∀ k, (k : Nat) = 1 → pos + k ≤ s.size ∧ ∀ j (hj : j < s.size), pos ≤ j → j < pos + k → 128 ≤ (s[j]'hj).toNat := by
    rintro k rfl
    refine ⟨h, fun j hj h1 h2 => ?_⟩
    obtain rfl : j = pos := by omega
    exact ha
  have hc : ∀ k, (decide (pos + k < s.size) && (s.get! (pos + k)).toNat / 64 == 2) = true → pos + k < s.size ∧ ∀ hj : pos + k < s.size, 128 ≤ (s[pos + k]'hj).toNat := by
    intro k hk
    simp at hk
    refine ⟨hk.1, fun hj => ?_⟩
    rw [← get_to s _ hj]
    omega
  have more : ∀ n, (∀ k, 1 ≤ k → k < n → pos + k < s.size ∧ ∀ hj : pos + k < s.size, 128 ≤ (s[pos + k]'hj).toNat) → pos + n ≤ s.size → pos + n ≤ s.size ∧ ∀ j (hj : j < s.size), pos ≤ j → j < pos + n → 128 ≤ (s[j]'hj).toNat := by
    intro n hn hle
    refine ⟨hle, fun j hj h1 h2 => ?_⟩
    by_cases e : j = pos
    · subst e; exact ha
    · have := (hn (j - pos) (by omega) (by omega)).2 (by omega)
      have e2 : pos + (j - pos) = j := by omega
      simp only [e2] at this
      exact this
  unfold Utf8.decode
  simp only [h0, if_false]
  split
  · rename_i h1
    simp only [Bool.and_eq_true] at h1
    have c1 := hc 1 (by simp only [Bool.and_eq_true]; exact h1.2)
    split
    · exact more 2 (fun k k1 k2 => by
        obtain rfl : k = 1 := by omega
        exact c1) (by have := c1.1; omega)
    · exact one _ rfl
  · split
    · rename_i h1
      simp only [Bool.and_eq_true] at h1
      have c1 := hc 1 (by simp only [Bool.and_eq_true]; exact h1.1.2)
      have c2 := hc 2 (by simp only [Bool.and_eq_true]; exact h1.2)
      split
      · exact more 3 (fun k k1 k2 => by
          rcases (by omega : k = 1 ∨ k = 2) with rfl | rfl
          · exact c1
          · exact c2) (by have := c2.1; omega)
      · exact one _ rfl
    · split
      · rename_i h1
        simp only [Bool.and_eq_true] at h1
        have c1 := hc 1 (by simp only [Bool.and_eq_true]; exact h1.1.1.2)
        have c2 := hc 2 (by simp only [Bool.and_eq_true]; exact h1.1.2)
        have c3 := hc 3 (by simp only [Bool.and_eq_true]; exact h1.2)
        split
        · exact more 4 (fun k k1 k2 => by
            rcases (by omega : k = 1 ∨ k = 2 ∨ k = 3) with rfl | rfl | rfl
            · exact c1
            · exact c2
            · exact c3) (by have := c3.1; omega)
        · exact one _ rfl
      · exact one _ rfl
/-- A row of strings that the call has made. -/
def OwnS (w : World) (B : Nat) (v : Value) (ps : List ByteArray) : Prop := w.ownsRow B 9 1 v ps.length (ps.map Value.string)
theorem OwnS.alloc {w : World} {B : Nat} {v : Value} {ps : List ByteArray} (h : OwnS w B v ps) (o : Obj) : OwnS (w.alloc o) B v ps := World.ownsRow.alloc h o
theorem OwnS.iterAt {w : World} {B : Nat} {v : Value} {ps : List ByteArray} (h : OwnS w B v ps) {k : Nat} (hk : k < B) (s : ByteArray) (p : Nat) : OwnS (w.iterAt k s p) B v ps := ownsRow_iterAt h hk s p
theorem ownS_nil (w : World) (B : Nat) : OwnS w B (.slice none 0 0) [] := World.ownsRow_nil _ _ _ _
theorem ownsMap_iterAt {H : Type} {w : World} {P : Program} {k : TypeId} {R : Value → Option (DataW H × List MemPlace)} {b n : Nat} {D : DataW H} (h : w.ownsMap P k R b n D) {it : Nat} (hne : b ≠ it) (s : ByteArray) (p : Nat) : (w.iterAt it s p).ownsMap P k R b n D := by
  obtain ⟨es, clock, hb, r⟩ := h
  exact ⟨es, clock, (Lib.iterAt_other w it b s p hne).trans hb, r⟩
theorem info_str : (Tryd.prog.info? 9).map (fun i => (i.zero, i.size, i.bytes)) = some (some (.string ⟨#[]⟩), 1, 16) := by kernel_rfl
/-- append(parts, news...). -/
theorem wp_app_strs {o : Oper} {a : Act} {w : World} {K : Act → World → Prop} {Q : Exit → Act → World → Prop} (s x : Operand)
    (ho : o.op = Op.call { callee := Callee.builtin Builtin.append, args := #[s, x], argTypes := #[66, 66] })
    (B : Nat) (v : Value) (ps : List ByteArray) (hs : a.eval s = v) (hown : OwnS w B v ps) (g m : Nat) (news : List ByteArray) (hx : a.eval x = .slice (some ⟨g, 0, none⟩) m m) (hm : news.length = m)
    (hc : ∀ j (h : j < news.length), w.cell? ⟨g, j, none⟩ = some (.string news[j])) (hmax : ps.length + m ≤ 10000000) (hB : B ≤ w.heap.size)
    (h : ∀ v' w', OwnS w' B v' (ps ++ news) → w.grownBy w' v.ownBlock → (∀ k, v.ownBlock = some k → B ≤ k ∧ k < w.heap.size) → K (a.put o.dst v') w') : o.wp Tryd.prog a w K Q := by
  obtain ⟨i0, hi, hz0, hz1, hz2⟩ := info_parts info_str
  obtain ⟨v', w', hr, h1, h2, _⟩ := run_append_own (P := Tryd.prog) w B 66 o.type 9 i0 (.string ⟨#[]⟩) 1 16 Tryd.underlying66 hi hz0 hz1 hz2 rfl (by decide) v ps.length (ps.map Value.string) hown ⟨g, 0, none⟩ m m (news.map Value.string)
    (by simp [hm]) (fun j u hj => by
      have hj' : j < news.length := by have := (List.getElem?_eq_some_iff.1 hj).1; simpa using this
      rw [show (⟨g, 0, none⟩ : Addr).add j = ⟨g, j, none⟩ by unfold Addr.add; split <;> simp_all, hc j hj', ← hj, List.getElem?_map, List.getElem?_eq_getElem hj']
      rfl) (fun u hu => by obtain ⟨y, _, rfl⟩ := List.mem_map.1 hu; rfl) (by unfold maxLen; omega) (by omega) hB
  unfold Oper.wp execOp
  simp only [ho, resolve, invoke, builtin, Sem.run_bind, Sem.run_pure, Result.andThen_ok, List.map_toArray, List.map_cons, List.map_nil, hs, hx, hr]
  refine h v' w' ?_ h2 (fun k hk => hown.lt k hk)
  unfold OwnS
  rw [List.length_append, List.map_append, hm]
  exact h1
theorem app_strs (w : World) {ops : Array Oper} {rest : List Oper} {o : Oper} {a : Act} {Q : Exit → Act → World → Prop} (hgd : o.guard = none) (s x : Operand)
    (ho : o.op = Op.call { callee := Callee.builtin Builtin.append, args := #[s, x], argTypes := #[66, 66] })
    (B : Nat) (v : Value) (ps : List ByteArray) (hs : a.eval s = v) (hown : OwnS w B v ps) (g m : Nat) (news : List ByteArray) (hx : a.eval x = .slice (some ⟨g, 0, none⟩) m m) (hm : news.length = m)
    (hc : ∀ j (h : j < news.length), w.cell? ⟨g, j, none⟩ = some (.string news[j])) (hmax : ps.length + m ≤ 10000000) (hB : B ≤ w.heap.size)
    (h : ∀ v' w', OwnS w' B v' (ps ++ news) → w.grownBy w' v.ownBlock → (∀ k, v.ownBlock = some k → B ≤ k ∧ k < w.heap.size) → wpList Tryd.prog ops Q rest (a.put o.dst v') w') : wpList Tryd.prog ops Q (o :: rest) a w :=
  wpList_plain hgd fun K hK => wp_app_strs s x ho B v ps hs hown g m news hx hm hc hmax hB (fun v' w' h1 h2 h3 => hK _ _ (h v' w' h1 h2 h3))
/-- joined of a row of strings that the call has made. -/
theorem joined_own {w : World} {B : Nat} {v : Value} {ps : List ByteArray} (hown : OwnS w B v ps) (h0 : 0 < ps.length) (hlen : ps.length ≤ 1000000) (htot : (flat ps).length ≤ 1099511627776) :
    Calls Tryd.prog 57 #[v] w fun e w' => e = .returned (.string (strOf (flat ps))) ∧ Below w.heap.size w w' := by
  obtain ⟨g, cap, rfl⟩ := Joins.ownsRow_form hown h0
  have hlt := (hown.lt g rfl).2
  exact impl_joined g cap ps w hlt (fun j hj => by
    have := hown.cells (g := g) rfl j (.string ps[j]) (by rw [List.getElem?_map, List.getElem?_eq_getElem hj]; rfl)
    rw [show (⟨g, 0, none⟩ : Addr).add j = ⟨g, j, none⟩ by unfold Addr.add; split <;> simp_all] at this
    exact this) hlen htot
theorem flat_app (a b : List ByteArray) : flat (a ++ b) = flat a ++ flat b := by simp [flat]
theorem ext_toList (s : ByteArray) (i j : Nat) (h1 : i ≤ j) (h2 : j ≤ s.size) : (s.extract i j).data.toList = (s.data.toList.take j).drop i := by
  rw [ByteArray.data_extract, Array.toList_extract, List.extract_eq_take_drop, List.drop_take]
end Go.Proofs.YtpbogdfgomfpjaaDoor
