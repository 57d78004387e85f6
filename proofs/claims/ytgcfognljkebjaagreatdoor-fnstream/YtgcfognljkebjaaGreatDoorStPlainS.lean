/- What impl.Plain, spec.l04Has, spec.l04Plain and spec.Plain answer. -/
import Derived.Test.YtgcfognljkebjaaGreatDoorStPlainI
namespace Go.Proofs.YtgcfognljkebjaaGreatDoor
set_option linter.unusedSimpArgs false
set_option linter.unusedVariables false
open Go.RowKit

/-- A text that is an escape of at most 2000 bytes. -/
def okP (T : List UInt8) : Bool := decide ((unAll T).all.length ≤ 2000) && (escL (unAll T).all == T)
/-- What Plain answers. -/
def plnV (s : ByteArray) : Value := if 20000 < s.size then textOut ⟨#[]⟩ 0 2 else if okP s.data.toList = true then textOut (strOf (unAll s.data.toList).all) 0 0 else textOut ⟨#[]⟩ 0 3
theorem okP_esc {T l : List UInt8} (h : T = escL l) : okP T = decide (l.length ≤ 2000) ∧ (unAll T).all = l := by
  subst h
  unfold okP
  rw [unAll_esc]
  exact ⟨by simp, rfl⟩
theorem okP_not {T : List UInt8} (h : ∀ l, T ≠ escL l) : okP T = false := by
  unfold okP
  have : (escL (unAll T).all == T) = false := by
    rw [beq_eq_false_iff_ne]
    exact fun e => h _ e.symm
  rw [this, Bool.and_false]
theorem text_kept {w w1 : World} {a b c : Value} {t : Nat} (h : Below (w.alloc (.cells #[a, b, c] t)).heap.size (w.alloc (.cells #[a, b, c] t)) w1) : Arr w1 w.heap.size t [a, b, c] := arr_below (Arr.fresh w t [a, b, c]) h
set_option maxRecDepth 100000 in
set_option maxHeartbeats 2000000 in
theorem impl_plain (s : ByteArray) (w : World) (hs : s.size ≤ maxLen) : Calls Tryz.prog 122 #[.string s] w fun e w' => e = .returned (plnV s) ∧ Below w.heap.size w w' := by
  unfold maxLen at hs
  unfold plnV
  by_cases hbig : 20000 < s.size
  · rw [if_pos hbig]
    go_enter Tryz.func122, Tryz.ntmps122
    go_wp2
    exact bodyPost_ret (v := textOut ⟨#[]⟩ 0 2) (by simp [results, Tryz.results122, go_sem, textOut]) rfl ⟨rfl, (Below.refl _ _).alloc (Nat.le_refl _) _⟩
  · rw [if_neg hbig]
    have i1 := fun w => impl_unesc s w (by omega)
    unfold okP
    have hul := unAll_len s.data.toList
    rw [size_data] at hul
    obtain ⟨u, hu⟩ : ∃ u, u = strOf (unAll s.data.toList).all := ⟨_, rfl⟩
    have hus : (unAll s.data.toList).all.length = u.size := by rw [hu, strOf_size]
    have hud : (unAll s.data.toList).all = u.data.toList := by rw [hu, strOf_data]
    rw [← hu] at i1 ⊢
    rw [hus] at hul ⊢
    have HUD := Lib.hid hud
    rw [hud]
    clear hu hus hud
    by_cases h2 : u.size ≤ 2000
    · rw [decide_eq_true h2, Bool.true_and]
      have i2 := fun w => impl_escape u w (by unfold maxLen; omega)
      unfold escS at i2
      rw [if_neg (by omega)] at i2
      obtain ⟨X, hX⟩ : ∃ X, X = strOf (escL u.data.toList) := ⟨_, rfl⟩
      have HX : Hid ((escL u.data.toList == s.data.toList) = (X.toList == s.toList)) := Lib.hid (by rw [hX, ByteArray.toList_eq, ByteArray.toList_eq, strOf_data])
      rw [← hX] at i2
      clear hX
      rw [HX.out]
      obtain ⟨b, hb0⟩ : ∃ b, (X.toList == s.toList) = b := ⟨_, rfl⟩
      rw [hb0]
      cases b
      · rw [if_neg Bool.false_ne_true]
        go_enter Tryz.func122, Tryz.ntmps122
        go_wp2_with (first
          | (go_at_call 146; go_fit (i1 _); rintro e w1 ⟨rfl, hb⟩; have hA := text_kept hb; replace hb := below_one hb)
          | (go_at_call 131; go_fit (i2 _); rintro e w2 ⟨rfl, hb2⟩; replace hA := arr_below hA hb2; replace hb := hb.trans (hb2.mono hb.size); clear hb2; have hz := arr_lt hA; obtain ⟨c0, c1, c2, f0, f1, f2⟩ := arr_three hA))
        exact bodyPost_ret (v := textOut ⟨#[]⟩ 0 3) (by simp [results, Tryz.results122, go_sem, c0, c1, c2, hz, textOut]; try omega) rfl ⟨rfl, below_three hb (Nat.le_refl _) _ _ _⟩
      · rw [if_pos rfl]
        go_enter Tryz.func122, Tryz.ntmps122
        go_wp2_with (first
          | (go_at_call 146; go_fit (i1 _); rintro e w1 ⟨rfl, hb⟩; have hA := text_kept hb; replace hb := below_one hb)
          | (go_at_call 131; go_fit (i2 _); rintro e w2 ⟨rfl, hb2⟩; replace hA := arr_below hA hb2; replace hb := hb.trans (hb2.mono hb.size); clear hb2; have hz := arr_lt hA; obtain ⟨c0, c1, c2, f0, f1, f2⟩ := arr_three hA))
        exact bodyPost_ret (v := textOut u 0 0) (by simp [results, Tryz.results122, go_sem, c0, c1, c2, hz, textOut]; try omega) rfl ⟨rfl, below_three hb (Nat.le_refl _) _ _ _⟩
    · rw [decide_eq_false h2, Bool.false_and, if_neg Bool.false_ne_true]
      go_enter Tryz.func122, Tryz.ntmps122
      go_wp2_with (go_at_call 146; go_fit (i1 _); rintro e w1 ⟨rfl, hb⟩; have hA := text_kept hb; replace hb := below_one hb; have hz := arr_lt hA; obtain ⟨c0, c1, c2, f0, f1, f2⟩ := arr_three hA)
      exact bodyPost_ret (v := textOut ⟨#[]⟩ 0 3) (by simp [results, Tryz.results122, go_sem, c0, c1, c2, hz, textOut]; try omega) rfl ⟨rfl, below_three hb (Nat.le_refl _) _ _ _⟩

/-- A text that begins so at a place. -/
def hasB (T : List UInt8) (i : Nat) (x : List UInt8) : Bool := x.isPrefixOf (T.drop i)
theorem hasB_iff {T x : List UInt8} {i : Nat} : hasB T i x = true ↔ x <+: T.drop i := by unfold hasB; exact List.isPrefixOf_iff_prefix
set_option maxHeartbeats 1000000 in
theorem spec_has (s : ByteArray) (i : Nat) (x : ByteArray) (w : World) (hs : s.size ≤ 1000000) (hi : i ≤ s.size) (hx : x.size ≤ 1000000) : Calls Tryz.prog 62 #[.string s, .int .i64 (i : Int), .string x] w (SaysB (hasB s.data.toList i x.data.toList) w) := by
  by_cases h1 : i + x.size ≤ s.size
  · have e1 : (s.extract i (i + x.size)).data.toList = (s.data.toList.drop i).take x.size := by
      rw [ext_toList s i (i + x.size) (by omega) h1, List.drop_take]
      simp
    have HE : Hid (((s.extract i (i + x.size)).toList == x.toList) = hasB s.data.toList i x.data.toList) := Lib.hid (by
      rw [Bool.eq_iff_iff, beq_iff_eq, hasB_iff, ByteArray.toList_eq, ByteArray.toList_eq, e1, List.prefix_iff_eq_take, size_data]
      exact eq_comm)
    clear e1
    have b1 : (i : Int) ≤ (i : Int) + (x.size : Int) := by omega
    have b2 : (i : Int) + (x.size : Int) ≤ (s.size : Int) := by omega
    rw [← HE.out]
    obtain ⟨v, hv⟩ : ∃ v, ((s.extract i (i + x.size)).toList == x.toList) = v := ⟨_, rfl⟩
    rw [hv]
    cases v
    · go_enter Tryz.func62, Tryz.ntmps62
      go_wp2
      go_ret
      exact ⟨rfl, rfl⟩
    · go_enter Tryz.func62, Tryz.ntmps62
      go_wp2
      go_ret
      exact ⟨rfl, rfl⟩
  · have HE : Hid (hasB s.data.toList i x.data.toList = false) := Lib.hid (by
      cases h : hasB s.data.toList i x.data.toList
      · rfl
      · have := (hasB_iff.1 h).length_le
        rw [List.length_drop, size_data, size_data] at this
        have h0 : x.size = 0 ∨ 0 < x.size := by omega
        exfalso
        omega)
    rw [HE.out]
    have b2 : (s.size : Int) < (i : Int) + (x.size : Int) := by omega
    go_enter Tryz.func62, Tryz.ntmps62
    go_wp2
    go_ret
    exact ⟨rfl, rfl⟩
end Go.Proofs.YtgcfognljkebjaaGreatDoor
