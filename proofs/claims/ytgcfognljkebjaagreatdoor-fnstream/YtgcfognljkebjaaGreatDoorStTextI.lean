/- What impl.fieldText, impl.idText, impl.endTag and impl.StanzaText answer. -/
import Derived.Test.YtgcfognljkebjaaGreatDoorStTextMath
import Derived.Test.YtgcfognljkebjaaGreatDoorStEscI
import Derived.Test.YtgcfognljkebjaaGreatDoorShelf
import Derived.Lib.SmallJoins
import Derived.Lib.AppendIntMem
namespace Go.Proofs.YtgcfognljkebjaaGreatDoor
set_option linter.unusedSimpArgs false
set_option linter.unusedVariables false
open Go.RowKit Go.Joins

/-- The library's table of powers is as it is laid. -/
def TabP (w : World) : Prop := Lib.TabIs Tryz.prog w "internal/strconv.uint64pow10" .u64 Lib.pow10Tab
theorem gPow : Tryz.prog.globalNamed "internal/strconv.uint64pow10" = some 1 := by kernel_rfl
theorem TabP.below {w w' : World} (h : TabP w) (hb : Below w.heap.size w w') : TabP w' := tab_stays gPow h hb (Nat.le_refl _)
theorem n_cells (w : World) (ss : List ByteArray) (t : Nat) : ∀ j (h : j < ss.length), (w.alloc (.cells (ss.map Value.string).toArray t)).cell? ⟨w.heap.size, j, none⟩ = some (.string ss[j]) := by
  intro j h
  rw [(Arr.fresh w t (ss.map Value.string)).cell, List.getElem?_map, List.getElem?_eq_getElem h]
  rfl
/-- joined of strings laid just ahead of it. -/
theorem joined_new (w : World) (ss : List ByteArray) (hl : ss.length ≤ 100) (htot : (flat ss).length ≤ 1099511627776) :
    Calls Tryz.prog 26 #[.slice (some ⟨w.heap.size, 0, none⟩) ss.length ss.length] (w.alloc (.cells (ss.map Value.string).toArray 9)) fun e w' => e = .returned (.string (strOf (flat ss))) ∧ Below w.heap.size w w' :=
  (impl_joined w.heap.size ss.length ss _ (by simp) (n_cells w ss _) (by omega) htot).mono fun e w' ⟨he, hb⟩ => ⟨he, below_one hb⟩
theorem impl_field (wd v : ByteArray) (w : World) (hw : wd.size ≤ 10) (hv : v.size ≤ 2000000) :
    Calls Tryz.prog 129 #[.string wd, .string v] w fun e w' => e = .returned (.string (strOf (fldL wd.data.toList v.data.toList))) ∧ Below w.heap.size w w' := by
  rcases Nat.eq_zero_or_pos v.size with h1 | h1
  · obtain ⟨n1, e1⟩ := empty_of h1
    have HF : Hid (strOf (fldL wd.data.toList v.data.toList) = ⟨#[]⟩) := Lib.hid (by rw [list_none h1]; rfl)
    rw [HF.out]
    go_enter Tryz.func129, Tryz.ntmps129
    go_wp2
    go_ret
    exact ⟨rfl, Below.refl _ _⟩
  · have n1 := ne_nil h1
    have e1 := not_empty h1
    have HF : Hid (strOf (fldL wd.data.toList v.data.toList) = strOf (flat [⟨#[32]⟩, wd, ⟨#[61, 39]⟩, v, ⟨#[39]⟩])) := Lib.hid (by rw [fld_some (list_some h1)]; simp [flat])
    have i1 := joined_new w [⟨#[32]⟩, wd, ⟨#[61, 39]⟩, v, ⟨#[39]⟩] (by simp) (by simp [flat]; have := size_data wd; have := size_data v; simp at *; omega)
    rw [← HF.out] at i1
    obtain ⟨X, hX⟩ : ∃ X, X = strOf (fldL wd.data.toList v.data.toList) := ⟨_, rfl⟩
    rw [← hX] at i1 ⊢
    clear hX HF
    go_enter Tryz.func129, Tryz.ntmps129
    go_wp2_with (go_at_call 26; go_fit i1; rintro e w1 ⟨rfl, hb⟩)
    go_ret
    exact ⟨rfl, hb⟩
theorem impl_idtext (n : Int) (w : World) (h0 : 0 ≤ n) (h1 : n ≤ 1000000000) (ht : TabP w) :
    Calls Tryz.prog 130 #[.int .i64 n] w fun e w' => e = .returned (.string (strOf (idL n))) ∧ Below w.heap.size w w' := by
  have i1 := Tryz.strconv_FormatInt_10 n (by omega) (by omega) w ht
  unfold idL
  by_cases hz : n = 0
  · subst hz
    rw [if_pos rfl]
    clear i1 ht
    go_enter Tryz.func130, Tryz.ntmps130
    go_wp2
    go_ret
    exact ⟨rfl, Below.refl _ _⟩
  · rw [if_neg hz]
    have hz' : (n == 0) = false := by simpa using hz
    clear ht
    go_enter Tryz.func130, Tryz.ntmps130
    go_wp2_with (go_at_call 45; go_fit i1; rintro e w1 ⟨rfl, kk, os, rfl⟩)
    go_ret
    exact ⟨rfl, Lib.below_grow _ w (Nat.le_refl _) kk os⟩
theorem impl_endtag (k : ByteArray) (w : World) (hk : k.size ≤ 2000000) :
    Calls Tryz.prog 123 #[.string k] w fun e w' => e = .returned (.string (strOf (60 :: 47 :: (k.data.toList ++ [62])))) ∧ Below w.heap.size w w' := by
  have HF : Hid (strOf (60 :: 47 :: (k.data.toList ++ [62])) = strOf (flat [⟨#[60, 47]⟩, k, ⟨#[62]⟩])) := Lib.hid (by simp [flat])
  have i1 := joined_new w [⟨#[60, 47]⟩, k, ⟨#[62]⟩] (by simp) (by simp [flat]; have := size_data k; simp at *; omega)
  rw [← HF.out] at i1
  obtain ⟨X, hX⟩ : ∃ X, X = strOf (60 :: 47 :: (k.data.toList ++ [62])) := ⟨_, rfl⟩
  rw [← hX] at i1 ⊢
  clear hX HF
  go_enter Tryz.func123, Tryz.ntmps123
  go_wp2_with (go_at_call 26; go_fit i1; rintro e w1 ⟨rfl, hb⟩)
  go_ret
  exact ⟨rfl, hb⟩
end Go.Proofs.YtgcfognljkebjaaGreatDoor
