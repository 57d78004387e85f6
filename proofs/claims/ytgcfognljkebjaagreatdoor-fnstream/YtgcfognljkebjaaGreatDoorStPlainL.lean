/- What spec.l04Plain and spec.Plain answer. -/
import Derived.Test.YtgcfognljkebjaaGreatDoorStPlainS
import Derived.Maps.AppendAt
namespace Go.Proofs.YtgcfognljkebjaaGreatDoor
set_option linter.unusedSimpArgs false
set_option linter.unusedVariables false
open Go.RowKit

def sgL : List UInt8 := [38, 60, 62, 39, 34]
theorem sg_mark : ∀ c ∈ sgL, markB c.toNat = true := by decide
theorem mark_sg {c : UInt8} (h : markB c.toNat = true) : c ∈ sgL := by
  unfold markB at h
  simp at h
  have e : ∀ k : UInt8, (c.toNat : Int) = (k.toNat : Int) → c = k := fun k hk => UInt8.toNat_inj.1 (by omega)
  rcases h with h | h | h | h | h
  · obtain rfl := e 38 h; decide
  · obtain rfl := e 60 h; decide
  · obtain rfl := e 62 h; decide
  · obtain rfl := e 39 h; decide
  · obtain rfl := e 34 h; decide
theorem form_apart : ∀ a ∈ sgL, ∀ b ∈ sgL, (formL a.toNat).isPrefixOf (formL b.toNat) = true → a = b := by decide
theorem form_one {a b : UInt8} (ha : a ∈ sgL) (hb : b ∈ sgL) {X : List UInt8} (h1 : formL a.toNat <+: X) (h2 : formL b.toNat <+: X) : a = b := by
  rcases List.prefix_or_prefix_of_prefix h1 h2 with h | h
  · exact form_apart a ha b hb (List.isPrefixOf_iff_prefix.2 h)
  · exact (form_apart b hb a ha (List.isPrefixOf_iff_prefix.2 h)).symm
/-- What has been read of an escape: l0, up to place i. -/
def Dec (T : List UInt8) (i : Nat) (l0 : List UInt8) : Prop := T.take i = escL l0 ∧ ∀ l, T = escL l → ∃ l', l = l0 ++ l' ∧ T.drop i = escL l'
theorem dec_start (T : List UInt8) : Dec T 0 [] := ⟨rfl, fun l h => ⟨l, rfl, h⟩⟩
theorem escC_ne (c : UInt8) : escC c ≠ [] := by
  cases h : markB c.toNat
  · rw [escC_not h]; simp
  · rw [escC_mark h]
    intro e
    have := form_pos h
    rw [e] at this
    simp at this
theorem dec_next {T : List UInt8} {i : Nat} {l0 : List UInt8} (h : Dec T i l0) (hi : i < T.length) : ∀ l, T = escL l → ∃ c l', l = (l0 ++ [c]) ++ l' ∧ T.drop i = escC c ++ escL l' := by
  intro l hl
  obtain ⟨l', e1, e2⟩ := h.2 l hl
  cases l' with
  | nil =>
    rw [escL_nil] at e2
    have := congrArg List.length e2
    simp at this
    omega
  | cons c l' => exact ⟨c, l', by rw [e1]; simp, by rw [e2, escL_cons]⟩
theorem take_more (T : List UInt8) (i n : Nat) (X : List UInt8) (hX : X.length = n) (h : X <+: T.drop i) : T.take (i + n) = T.take i ++ X := by
  rw [List.take_add, List.prefix_iff_eq_take.1 h, hX]
theorem form_head {a : UInt8} (h : a ∈ sgL) : ∃ r, formL a.toNat = 38 :: r := by
  have : ∀ a ∈ sgL, (formL a.toNat).head? = some 38 := by decide
  have := this a h
  cases hf : formL a.toNat with
  | nil => rw [hf] at this; simp at this
  | cons x r => rw [hf] at this; simp at this; exact ⟨r, by rw [this]⟩
theorem dec_head {T : List UInt8} {i : Nat} {c : UInt8} {l' : List UInt8} (hi : i < T.length) (hc : markB (T[i]).toNat = true) (e2 : T.drop i = escC c ++ escL l') : markB c.toNat = true := by
  cases hm : markB c.toNat
  · exfalso
    have hd : T.drop i = T[i] :: T.drop (i + 1) := List.drop_eq_getElem_cons hi
    rw [escC_not hm] at e2
    have e3 := List.cons.inj (hd.symm.trans e2)
    rw [e3.1, hm] at hc
    cases hc
  · rfl
theorem dec_plain {T : List UInt8} {i : Nat} {l0 : List UInt8} (h : Dec T i l0) (hi : i < T.length) (hc : markB (T[i]).toNat = false) : Dec T (i + 1) (l0 ++ [T[i]]) := by
  have hd : T.drop i = T[i] :: T.drop (i + 1) := List.drop_eq_getElem_cons hi
  refine ⟨?_, fun l hl => ?_⟩
  · rw [escL_append, ← h.1, List.take_succ_eq_append_getElem hi]
    congr 1
    simp [escL, escC_not hc]
  · obtain ⟨c, l', e1, e2⟩ := dec_next h hi l hl
    cases hm : markB c.toNat
    · rw [escC_not hm] at e2
      have e3 := List.cons.inj (hd.symm.trans e2)
      exact ⟨l', by rw [e1, ← e3.1], e3.2⟩
    · exfalso
      have := form_head (mark_sg hm)
      rw [escC_mark hm] at e2
      obtain ⟨r, hr⟩ := this
      rw [hr] at e2
      have e3 := List.cons.inj (hd.symm.trans e2)
      rw [e3.1] at hc
      exact absurd hc (by decide)
theorem dec_mark {T : List UInt8} {i : Nat} {l0 : List UInt8} (h : Dec T i l0) (hi : i < T.length) {a : UInt8} (ha : a ∈ sgL) (hp : formL a.toNat <+: T.drop i) (hc : markB (T[i]).toNat = true) : Dec T (i + (formL a.toNat).length) (l0 ++ [a]) := by
  refine ⟨?_, fun l hl => ?_⟩
  · rw [take_more T i _ _ rfl hp, h.1, escL_append]
    congr 1
    simp [escL, escC_mark (sg_mark a ha)]
  · obtain ⟨c, l', e1, e2⟩ := dec_next h hi l hl
    have hcm := dec_head hi hc e2
    rw [escC_mark hcm] at e2
    have : c = a := form_one (mark_sg hcm) ha ⟨_, e2.symm⟩ hp
    subst this
    refine ⟨l', e1, ?_⟩
    rw [← List.drop_drop, e2]
    simp
theorem dec_none {T : List UInt8} {i : Nat} {l0 : List UInt8} (h : Dec T i l0) (hi : i < T.length) (hc : markB (T[i]).toNat = true) (hn : ∀ a ∈ sgL, ¬ formL a.toNat <+: T.drop i) : ∀ l, T ≠ escL l := by
  intro l hl
  obtain ⟨c, l', e1, e2⟩ := dec_next h hi l hl
  have hcm := dec_head hi hc e2
  rw [escC_mark hcm] at e2
  exact hn c (mark_sg hcm) ⟨_, e2.symm⟩
theorem dec_end {T : List UInt8} {i : Nat} {l0 : List UInt8} (h : Dec T i l0) (hi : ¬ i < T.length) : T = escL l0 := by
  rw [← h.1, List.take_of_length_le (by omega)]
theorem decU_len {T : List UInt8} {i : Nat} {l0 : List UInt8} (h : Dec T i l0) : l0.length ≤ T.length := by
  have : l0.length ≤ (escL l0).length := by
    clear h
    induction l0 with
    | nil => simp
    | cons c l ih =>
      rw [escL_cons, List.length_append, List.length_cons]
      have : 0 < (escC c).length := List.length_pos_iff.2 (escC_ne c)
      omega
  have h2 := congrArg List.length h.1
  rw [List.length_take] at h2
  omega
/-- What l04Plain answers. -/
def PlainRes (T : List UInt8) (u : ByteArray) (b : Bool) : Prop := (∃ l, T = escL l ∧ u = strOf l ∧ b = decide (l.length ≤ 2000)) ∨ ((∀ l, T ≠ escL l) ∧ u = ⟨#[]⟩ ∧ b = false)
/-- The signs' row. -/
def Sg (W : World) (g : Nat) : Prop := Arr W g 5 [.int .u8 38, .int .u8 60, .int .u8 62, .int .u8 39, .int .u8 34]
/-- What stands at each round: the bytes told so far, in a row that is not the signs'. -/
def PlW (w : World) (v : Value) (l : List UInt8) (W : World) : Prop := OwnR W w.heap.size v l ∧ (∀ k, v.ownBlock = some k → k ≠ w.heap.size + 1) ∧ Sg W (w.heap.size + 1) ∧ Below w.heap.size w W
theorem PlW.alloc {w : World} {v : Value} {l : List UInt8} {W : World} (h : PlW w v l W) (o : Obj) : PlW w v l (W.alloc o) := ⟨h.1.alloc o, h.2.1, arr_alloc h.2.2.1 o, h.2.2.2.alloc h.2.2.2.size o⟩
theorem sg_cell {W : World} {g : Nat} (h : Sg W g) (k : Nat) (hk : k < 5) : W.cell? ⟨g, k, none⟩ = some (.int .u8 (sgL[k]'hk).toNat) := by
  rw [h.cell]
  match k, hk with
  | 0, _ => rfl
  | 1, _ => rfl
  | 2, _ => rfl
  | 3, _ => rfl
  | 4, _ => rfl
theorem pl_byte (w w0 : World) {ops : Array Oper} {rest : List Oper} {o : Oper} {a : Act} {Q : Exit → Act → World → Prop} (hgd : o.guard = none) (s x : Operand)
    (ho : o.op = Op.call { callee := Callee.builtin Builtin.append, args := #[s, x], argTypes := #[38, 38] })
    (v : Value) (l : List UInt8) (hs : a.eval s = v) (hown : PlW w0 v l w) (g : Nat) (c : UInt8) (hx : a.eval x = .slice (some ⟨g, 0, none⟩) 1 1) (hcell : w.cell? ⟨g, 0, none⟩ = some (.int .u8 (c.toNat : Int))) (hmax : l.length ≤ 10000000)
    (h : ∀ v' w', PlW w0 v' (l ++ [c]) w' → wpList Tryz.prog ops Q rest (a.put o.dst v') w') : wpList Tryz.prog ops Q (o :: rest) a w := by
  obtain ⟨i0, hi, hz0, hz1, hz2⟩ := info_parts info_u8e
  obtain ⟨hO, hap, hsg, hB⟩ := hown
  have hsl : w0.heap.size + 1 < w.heap.size := arr_lt hsg
  refine wpList_append_own_at w hgd s x 38 ho w0.heap.size 5 i0 (.int .u8 0) 1 1 Tryz.underlying38 hi hz0 hz1 hz2 rfl (by decide) v l.length (l.map byteV) hs hO ⟨g, 0, none⟩ 1 1 [byteV c] hx rfl (fun j u hj => ?_) (one_cell _ _) (by unfold maxLen; omega) (by omega) (by omega) (fun v' w' h1 h2 _ h4 => h v' w' ⟨?_, fun k hk => ?_, ?_, hB.grown h2 hB.size (fun k hk => own_base hO k hk)⟩)
  · match j, hj with
    | 0, hj =>
      simp at hj
      subst hj
      simpa [Addr.add, byteV] using hcell
  · unfold OwnR
    rw [List.length_append, List.map_append]
    exact h1
  · rcases h4 with h4 | h4
    · exact hap k (by rw [← h4]; exact hk)
    · rw [hk] at h4
      have := Option.some.inj h4
      omega
  · unfold Sg Arr at hsg ⊢
    rw [← hsg]
    exact h2.block _ hsl (fun e => hap _ e.symm rfl)
/-- What the search for a sign has found after k of them. -/
def Found (T : List UInt8) (i : Nat) (l0 : List UInt8) (k : Nat) (n : Value) (l : List UInt8) : Prop :=
  (∃ j, ∃ h : j < 5, j < k ∧ formL (sgL[j]'h).toNat <+: T.drop i ∧ n = .int .i64 (formL (sgL[j]'h).toNat).length ∧ l = l0 ++ [sgL[j]'h]) ∨ ((∀ j (h : j < 5), j < k → hasB T i (formL (sgL[j]'h).toNat) = false) ∧ n = .int .i64 0 ∧ l = l0)
theorem sg_inj : ∀ j (h : j < 5) k (h' : k < 5), sgL[j]'h = sgL[k]'h' → j = k := by
  have : ∀ j k : Fin 5, sgL[j.val]'j.isLt = sgL[k.val]'k.isLt → j = k := by decide
  intro j h k h' e
  exact Fin.val_eq_of_eq (this ⟨j, h⟩ ⟨k, h'⟩ e)
theorem found_no {T : List UInt8} {i : Nat} {l0 : List UInt8} {k : Nat} {n : Value} {l : List UInt8} (h : Found T i l0 k n l) (hk : k < 5) (hx : hasB T i (formL (sgL[k]'hk).toNat) = false) : Found T i l0 (k + 1) n l := by
  rcases h with ⟨j, hj, h1, h2⟩ | ⟨h1, h2⟩
  · exact .inl ⟨j, hj, by omega, h2⟩
  · exact .inr ⟨fun j hj hjk => by
      by_cases e : j = k
      · subst e; exact hx
      · exact h1 j hj (by omega), h2⟩
theorem found_yes {T : List UInt8} {i : Nat} {l0 : List UInt8} {k : Nat} {n : Value} {l : List UInt8} (h : Found T i l0 k n l) (hk : k < 5) (hx : hasB T i (formL (sgL[k]'hk).toNat) = true) : l = l0 ∧ Found T i l0 (k + 1) (.int .i64 (formL (sgL[k]'hk).toNat).length) (l0 ++ [sgL[k]'hk]) := by
  refine ⟨?_, .inl ⟨k, hk, Nat.lt_succ_self _, hasB_iff.1 hx, rfl, rfl⟩⟩
  rcases h with ⟨j, hj, h1, h2, _⟩ | ⟨h1, h2⟩
  · have := sg_inj j hj k hk (form_one (List.getElem_mem hj) (List.getElem_mem hk) h2 (hasB_iff.1 hx))
    omega
  · exact h2.2
theorem found_all {T : List UInt8} {i : Nat} {l0 : List UInt8} {n : Value} {l : List UInt8} (h : Found T i l0 5 n l) : (∃ a, a ∈ sgL ∧ formL a.toNat <+: T.drop i ∧ n = .int .i64 (formL a.toNat).length ∧ l = l0 ++ [a]) ∨ (∀ a ∈ sgL, ¬ formL a.toNat <+: T.drop i) ∧ n = .int .i64 0 ∧ l = l0 := by
  rcases h with ⟨j, hj, h1, h2, h3⟩ | ⟨h1, h2⟩
  · exact .inl ⟨_, List.getElem_mem hj, h2, h3⟩
  · refine .inr ⟨fun a ha hp => ?_, h2⟩
    obtain ⟨j, hj, rfl⟩ := List.getElem_of_mem ha
    have := h1 j hj hj
    rw [hasB_iff.2 hp] at this
    cases this
set_option maxRecDepth 100000 in
set_option maxHeartbeats 2000000 in
theorem spec_l04plain (s : ByteArray) (w : World) (hs : s.size ≤ 100000) : Calls Tryz.prog 83 #[.string s] w fun e w' => (∃ u b, e = .returned (.tuple #[.string u, .bool b]) ∧ PlainRes s.data.toList u b) ∧ Below w.heap.size w w' := by
  have hlen : s.data.toList.length = s.size := size_data s
  go_enter Tryz.func83, Tryz.ntmps83
  go_wp2
  go_loopw [4, 6] (fun v q W => ∃ (i : Nat) (l0 : List UInt8), i ≤ s.size ∧ q = .int .i64 i ∧ PlW w v l0 W ∧ Dec s.data.toList i l0) (fun _ q _ => s.size - (intOf q).toNat)
  case atStart => exact ⟨0, [], Nat.zero_le _, rfl, ⟨(ownR_none w).alloc _, fun k hk => by simp [Value.ownBlock] at hk; omega, by have := Arr.fresh (w.alloc (.cells #[] 5)) 5 [.int .u8 38, .int .u8 60, .int .u8 62, .int .u8 39, .int .u8 34]; rw [World.size_alloc] at this; exact this, ((Below.refl _ _).alloc (Nat.le_refl _) _).alloc (by simp) _⟩, dec_start _⟩
  case round =>
    obtain ⟨i, l0, hk, rfl, hP, hD⟩ := hrel
    have hl0 := decU_len hD
    have HD := Lib.hid hD
    clear hD
    by_cases hlt : i < s.size
    · have hc := byte_le s[i]
      have hT : (s.data.toList[i]'(by omega)) = s[i] := rfl
      have i1 := fun w => spec_sign s[i].toNat w
      cases hmk : markB s[i].toNat
      · rw [form_none hmk] at i1
        have HD2 := Lib.hid (dec_plain HD.out (by omega) hmk)
        clear hmk
        obtain ⟨n1, e1⟩ := empty_of (s := strOf []) rfl
        go_wp2_with (first
          | (go_at_call 106; go_fit (i1 _); rintro e w1 ⟨rfl, rfl⟩)
          | (at_builtin; refine pl_byte _ w rfl _ _ rfl _ _ rfl (hP.alloc _) wr.heap.size s[i] rfl (by simp) (by omega) ?_; intro v' w2 hP2))
        go_roundw
        case rel => exact ⟨i + 1, _, hlt, by go_num, hP2, HD2.out⟩
        case measure => simp [intOf]; omega
      · have hp := form_pos hmk
        rw [← strOf_size] at hp
        obtain ⟨X, hX⟩ : ∃ X, X = strOf (formL s[i].toNat) := ⟨_, rfl⟩
        rw [← hX] at hp i1
        clear hX
        have HMK := Lib.hid hmk
        clear hmk
        have n1 := ne_nil hp
        have e1 := not_empty hp
        go_wp2_with (first
          | (go_at_call 106; go_fit (i1 _); rintro e w1 ⟨rfl, rfl⟩))
        go_loopw [4, 7, 8] (fun v n q W => ∃ (k : Nat) (l : List UInt8), k ≤ 5 ∧ q = .int .i64 k ∧ PlW w v l W ∧ l.length ≤ l0.length + 1 ∧ Found s.data.toList i l0 k n l) (fun _ _ q _ => 5 - (intOf q).toNat)
        case atStart => exact ⟨0, l0, Nat.zero_le _, rfl, hP, Nat.le_succ _, .inr ⟨fun _ _ h => absurd h (Nat.not_lt_zero _), rfl, rfl⟩⟩
        case round =>
          obtain ⟨k, l, hk5, rfl, hP2, hll, hF⟩ := hrel
          have HF := Lib.hid hF
          clear hF
          by_cases hk4 : k < 5
          · have hcell := sg_cell hP2.2.2.1 k hk4
            obtain ⟨c, hcc⟩ : ∃ c, c = sgL[k]'hk4 := ⟨_, rfl⟩
            have HCC := Lib.hid hcc
            rw [← hcc] at hcell
            clear hcc
            have hl6 := form_len c.toNat
            have i2 := fun w => spec_sign c.toNat w
            have i3 := fun w => spec_has s i (strOf (formL c.toNat)) w (by omega) hk (by rw [strOf_size]; omega)
            rw [strOf_data] at i3
            obtain ⟨F, hFF⟩ : ∃ F, F = strOf (formL c.toNat) := ⟨_, rfl⟩
            have HFF : Hid (F.size = (formL c.toNat).length) := Lib.hid (by rw [hFF, strOf_size])
            rw [← hFF] at i2 i3
            clear hFF
            cases hx : hasB s.data.toList i (formL c.toNat)
            · rw [hx] at i3
              have HX := Lib.hid hx
              clear hx
              go_wp2_with (first
                | (go_at_call 106; go_fit (i2 _); rintro e w1 ⟨rfl, rfl⟩)
                | (go_at_call 62; go_fit (i3 _); rintro e w1 ⟨rfl, rfl⟩))
              go_roundw
              case rel => exact ⟨k + 1, l, hk4, by go_num, hP2, hll, found_no HF.out hk4 (by rw [← HCC.out]; exact HX.out)⟩
              case measure => simp [intOf]; omega
            · rw [hx] at i3
              obtain ⟨hl, hF2⟩ := found_yes HF.out hk4 (by rw [← HCC.out]; exact hx)
              subst hl
              have HF2 := Lib.hid hF2
              clear hx hF2
              go_wp2_with (first
                | (go_at_call 106; go_fit (i2 _); rintro e w1 ⟨rfl, rfl⟩)
                | (go_at_call 62; go_fit (i3 _); rintro e w1 ⟨rfl, rfl⟩)
                | (at_builtin; refine pl_byte _ w rfl _ _ rfl _ _ rfl (hP2.alloc _) wr.heap.size c rfl (by simp) (by omega) ?_; intro v' w2 hP3; have hcell2 := sg_cell hP3.2.2.1 k hk4; rw [← HCC.out] at hcell2))
              go_roundw
              case rel => exact ⟨k + 1, l ++ [c], hk4, by go_num, hP3, by simp, by rw [HFF.out, HCC.out]; exact HF2.out⟩
              case measure => simp [intOf]; omega
          · obtain rfl : k = 5 := by omega
            rcases found_all HF.out with ⟨a, ha, hp, rfl, rfl⟩ | ⟨hno, rfl, rfl⟩
            · have HD2 := Lib.hid (dec_mark HD.out (by omega) ha hp HMK.out)
              have hpos := form_pos (sg_mark a ha)
              have hle : i + (formL a.toNat).length ≤ s.size := by
                have := hp.length_le
                rw [List.length_drop, hlen] at this
                omega
              obtain ⟨n, hn⟩ : ∃ n, n = (formL a.toNat).length := ⟨_, rfl⟩
              rw [← hn] at hpos hle HD2 ⊢
              clear hn
              go_wp2
              exact ⟨⟨i + n, l0 ++ [a], hle, by go_num, hP2, HD2.out⟩, by simp [intOf]; omega⟩
            · have HNO := Lib.hid (dec_none HD.out (by omega) HMK.out hno)
              clear hno
              go_wp2
              exact bodyPost_ret (v := .tuple #[.string ⟨#[]⟩, .bool false]) (by simp [results, Tryz.results83, go_sem]) rfl ⟨⟨_, _, rfl, .inr ⟨HNO.out, rfl, rfl⟩⟩, hP2.2.2.2⟩
    · have HE := Lib.hid (dec_end HD.out (by omega))
      have hcv := hP.1.str
      have hB := hP.2.2.2
      have HL := Lib.hid hl0
      rcases Joins.ownsRow_forms hP.1 with ⟨rfl, h0⟩ | ⟨g, cap, rfl⟩
      · obtain rfl : l0 = [] := List.eq_nil_of_length_eq_zero h0
        clear hP h0
        go_wp2
        exact bodyPost_ret (v := .tuple #[.string (strOf []), .bool true]) (by simp [results, Tryz.results83, go_sem]) rfl ⟨⟨_, _, rfl, .inl ⟨[], HE.out, rfl, rfl⟩⟩, hB⟩
      · clear hP
        obtain ⟨U, hU⟩ : ∃ U, U = strOf l0 := ⟨_, rfl⟩
        rw [← hU] at hcv
        obtain ⟨n, hn⟩ : ∃ n, n = l0.length := ⟨_, rfl⟩
        rw [← hn] at hcv ⊢
        have hn2 : n ≤ 100000 := by omega
        have HU := Lib.hid hU
        have HN := Lib.hid hn
        clear hU hn hl0 HD
        go_wp2
        exact bodyPost_ret (v := .tuple #[.string U, .bool (decide (n ≤ 2000))]) (by simp [results, Tryz.results83, go_sem]; try omega) rfl ⟨⟨_, _, rfl, .inl ⟨l0, HE.out, HU.out, by rw [HN.out]⟩⟩, hB⟩
end Go.Proofs.YtgcfognljkebjaaGreatDoor
