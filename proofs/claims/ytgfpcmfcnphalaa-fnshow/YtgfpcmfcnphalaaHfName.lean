/- What halves are named. -/
import Derived.Test.YtgfpcmfcnphalaaHfRight
import Derived.Test.YtgfpcmfcnphalaaJoinWalks
namespace Go.Proofs.Ytgfpcmfcnphalaa
set_option linter.unusedSimpArgs false
set_option linter.unusedVariables false
open Go.RowKit

def strC (s : ByteArray) : List Value := [.string s]
theorem strC_len (s : ByteArray) : (strC s).length = 1 := rfl
theorem strC_one (s : ByteArray) : ∀ u ∈ strC s, u.oneCell' = true := by
  intro u hu
  simp [strC] at hu
  subst hu
  rfl
theorem info_strN : (Try.prog.info? 9).map (fun i => (i.zero, i.size, i.bytes)) = some (some (.string ⟨#[]⟩), 1, 16) := by kernel_rfl
def sOut : ByteArray := ⟨#[43, 111, 117, 116]⟩
def sIn : ByteArray := ⟨#[43, 105, 110]⟩
/-- A half's name. -/
def nameH (h : HfL) : ByteArray := if h.ok then (if h.i ≠ 0 then (if h.o ≠ 0 then showH h ++ sOut else showH h) ++ sIn else (if h.o ≠ 0 then showH h ++ sOut else showH h)) else ⟨#[]⟩
theorem joined_two (a b : ByteArray) : strOf (flat [a, b]) = a ++ b := by
  apply ByteArray.ext
  simp [strOf, flat]
theorem joined_three (a b c : ByteArray) : strOf (flat [a, b, c]) = a ++ b ++ c := by
  apply ByteArray.ext
  simp [strOf, flat]
theorem show_four {h : HfL} (hk : h.ok) : showH h = ⟨#[98, 111, 116, 104]⟩ ∨ showH h = ⟨#[116, 111]⟩ ∨ showH h = ⟨#[102, 114, 111, 109]⟩ ∨ showH h = ⟨#[110, 111, 110, 101]⟩ := by
  unfold showH
  rw [if_pos hk]
  split
  · exact .inl rfl
  · split
    · exact .inr (.inl rfl)
    · split
      · exact .inr (.inr (.inl rfl))
      · exact .inr (.inr (.inr rfl))
theorem app_out (a : ByteArray) : ¬ (a ++ (⟨#[43, 111, 117, 116]⟩ : ByteArray)).toList = [] := by
  intro h
  rw [ByteArray.toList_eq] at h
  simp at h
set_option maxHeartbeats 1000000 in
theorem spec_name (h : HfL) (w : World) : Calls Try.prog 29 #[hfL h] w fun e w' => e = .returned (.string (nameH h)) ∧ Below w.heap.size w w' := by
  obtain ⟨s, hs⟩ : ∃ s, nameH h = s := ⟨_, rfl⟩
  have HS := Lib.hid hs
  rw [hs]
  clear hs
  have i1 := fun W => spec_show h W
  by_cases hk : h.ok
  · rcases show_four hk with e | e | e | e
    all_goals (
      rw [e] at i1
      go_enter Try.func29, Try.ntmps29
      go_wp2_with (go_at_call 27; go_fit (i1 _); rintro e w' ⟨rfl, hb⟩; (obtain ⟨hA, hb⟩ := hf_box hb); (obtain ⟨⟨c0, c1, c2, c3, c4⟩, _⟩ := hf_cells hA); clear hA)
      all_goals first
        | exact absurd (by assumption) (app_out _)
        | (go_ret; refine ⟨ret_str ?_, hb⟩; rw [← HS.out]; unfold nameH; rw [if_pos hk, e]; have T := app_out; clear c0 c1 c2 c3 c4 hb i1 HS; simp_all [sOut, sIn]))
  · have e : showH h = ⟨#[]⟩ := if_neg hk
    rw [e] at i1
    go_enter Try.func29, Try.ntmps29
    go_wp2_with (go_at_call 27; go_fit (i1 _); rintro e w' ⟨rfl, hb⟩; (obtain ⟨hA, hb⟩ := hf_box hb); (obtain ⟨⟨c0, c1, c2, c3, c4⟩, _⟩ := hf_cells hA); clear hA)
    all_goals (go_ret; exact ⟨ret_str (by rw [← HS.out]; exact (if_neg hk).symm), hb⟩)
/-- The box of the half, the row of the parts. -/
def NmS (w W : World) (h : HfL) (v : Value) (xs : List ByteArray) : Prop := Arr W w.heap.size 24 (hfC h) ∧ Below w.heap.size w W ∧ OwnC strC W (w.heap.size + 1) 9 1 v xs ∧ w.heap.size + 1 ≤ W.heap.size
theorem NmS.on {w W W2 : World} {h : HfL} {v : Value} {xs : List ByteArray} (x : NmS w W h v xs) (hb : Below W.heap.size W W2) : NmS w W2 h v xs :=
  ⟨(hb.block _ (Array.getElem?_eq_some_iff.1 x.1).1).trans x.1, x.2.1.trans (hb.mono x.2.1.size), x.2.2.1.on hb, Nat.le_trans x.2.2.2 hb.size⟩
theorem NmS.grown {w W W2 : World} {h : HfL} {v v2 : Value} {xs ys : List ByteArray} (x : NmS w W h v xs) (hg : W.grownBy W2 v.ownBlock) (ho : OwnC strC W2 (w.heap.size + 1) 9 1 v2 ys) : NmS w W2 h v2 ys := by
  have hB : ∀ k, v.ownBlock = some k → w.heap.size + 1 ≤ k := own_base x.2.2.1
  have hb : Below (w.heap.size + 1) W W2 := (Below.refl _ W).grown hg x.2.2.2 hB
  exact ⟨(hb.block _ (by omega)).trans x.1, x.2.1.trans (hb.mono (by omega)), ho, Nat.le_trans x.2.2.2 hg.size⟩
theorem joined_row {W : World} {B : Nat} {v : Value} {xs : List ByteArray} (h : OwnC strC W B 9 1 v xs) (h0 : xs ≠ []) (hl : xs.length ≤ 1000) (ht : (flat xs).length ≤ 1000000) :
    Calls Try.prog 49 #[v] W fun e w' => e = .returned (.string (strOf (flat xs))) ∧ Below W.heap.size W w' := by
  obtain ⟨p, cap, rfl, hR⟩ := h.row strC_len
  obtain ⟨g, rfl, hg, hc⟩ := hR h0
  exact impl_joined g cap xs W hg (fun j hj => by
    have := hc j hj 0 (by decide)
    rw [Nat.mul_one, Nat.add_zero] at this
    exact this) (by omega) (by omega)
theorem show_size (h : HfL) : (showH h).size ≤ 4 := by
  unfold showH
  split
  · split
    · decide
    · split
      · decide
      · split <;> decide
  · decide
theorem nm_start {w w1 w2 : World} {h : HfL} (hA : Arr w1 w.heap.size 24 (hfC h)) (hb : Below w.heap.size w w1) (hb2 : Below w1.heap.size w1 w2) (q : ByteArray) :
    NmS w (w2.alloc (.cells #[.string q] 9)) h (.slice (some ⟨w2.heap.size, 0, none⟩) 1 1) [q] := by
  have h1 := (Array.getElem?_eq_some_iff.1 hA).1
  have h2 := hb2.size
  have hA2 := (hb2.block _ h1).trans hA
  refine ⟨(Below.refl _ w2 |>.alloc (Nat.le_refl _) _).block _ (by omega) |>.trans hA2, (hb.trans (hb2.mono hb.size)).alloc (by omega) _, ?_, by simp; omega⟩
  have := World.ownsRow_lit (base := w2.heap.size) (e := 9) (size := 1) w2 #[.string q] 1 (Nat.le_refl _) (by unfold maxLen; omega) rfl
  exact OwnC.mono (enc := strC) (xs := [q]) this (by omega)
theorem arr_ltN {w : World} {b t : Nat} {cs : List Value} (h : Arr w b t cs) : b < w.heap.size := (Array.getElem?_eq_some_iff.1 h).1
theorem nm_eq {h : HfL} {q : ByteArray} (hk : h.ok) (hq : showH h = q) : nameH h = if h.i ≠ 0 then (if h.o ≠ 0 then q ++ sOut else q) ++ sIn else (if h.o ≠ 0 then q ++ sOut else q) := by
  rw [← hq]
  exact if_pos hk
set_option maxHeartbeats 1000000 in
theorem impl_name (h : HfL) (w : World) : Calls Try.prog 28 #[hfL h] w fun e w' => e = .returned (.string (nameH h)) ∧ Below w.heap.size w w' := by
  obtain ⟨s, hs⟩ : ∃ s, nameH h = s := ⟨_, rfl⟩
  have HS := Lib.hid hs
  rw [hs]
  clear hs
  have i1 := fun W => impl_right h W
  have i2 := fun W => impl_show h W
  obtain ⟨q, hq⟩ : ∃ q, showH h = q := ⟨_, rfl⟩
  have hqs := show_size h
  rw [hq] at i2 hqs
  have HQ := Lib.hid hq
  clear hq
  by_cases hk : h.ok
  · rw [decide_eq_true hk] at i1
    by_cases ho0 : h.o = 0 <;> by_cases hi0 : h.i = 0
    · have n1 : (h.o != 0) = false := by simp [ho0]
      have n2 : (h.i != 0) = false := by simp [hi0]
      have HO0 := Lib.hid ho0
      have HI0 := Lib.hid hi0
      clear ho0 hi0
      go_enter Try.func28, Try.ntmps28
      go_wp2_with (first
        | (go_at_call 19; go_fit (i1 _); rintro e w' ⟨rfl, hb⟩; (obtain ⟨hA, hb⟩ := hf_box hb); (obtain ⟨⟨c0, c1, c2, c3, c4⟩, _⟩ := hf_cells hA); have HA := Lib.hid (And.intro hA hb); clear hA hb)
        | (go_at_call 26; go_fit (i2 _); rintro e w2 ⟨rfl, hb2⟩; have HN := Lib.hid (nm_start HA.out.1 HA.out.2 hb2 q); clear hb2; obtain ⟨⟨c0, c1, c2, c3, c4⟩, _⟩ := hf_cells HN.out.1; have hz := arr_ltN HN.out.1)
        | (go_at_call 49; have _ := HN; go_fit (joined_row HN.out.2.2.1 (by simp) (by simp) (by simp [flat, size_data]; omega)); rintro e w5 ⟨rfl, hb5⟩; have HE := Lib.hid (HN.out.on hb5); clear hb5))
      go_ret
      refine ⟨ret_str ?_, HE.out.2.1⟩
      rw [← HS.out, nm_eq hk HQ.out, if_neg (fun e => e HI0.out), if_neg (fun e => e HO0.out)]
      exact joined_one _
    · have n1 : (h.o != 0) = false := by simp [ho0]
      have n2 : (h.i == 0) = false := by simp [hi0]
      have HO0 := Lib.hid ho0
      have HI0 := Lib.hid hi0
      clear ho0 hi0
      go_enter Try.func28, Try.ntmps28
      go_wp2_with (first
        | (at_builtin; have _ := HN; refine app_C strC_one strC_len Try.underlying69 info_strN rfl (by decide) (by decide) _ rfl _ _ rfl (w.heap.size + 1) _ [q] rfl (HN.out.2.2.1.alloc _) (w2.heap.size + 1) ⟨#[43, 105, 110]⟩ rfl (by have h0 := Arr.fresh (w2.alloc (.cells #[.string q] 9)) 9 [.string (⟨#[43, 105, 110]⟩ : ByteArray)]; rw [World.size_alloc] at h0; exact h0) (by simp) (Nat.le_trans HN.out.2.2.2 (by simp)) ?_; intro v' w' ho hg; obtain ⟨p', k', rfl, _⟩ := ho.row strC_len; have HI := Lib.hid ((HN.out.on ((Below.refl _ _).alloc (Nat.le_refl _) _)).grown hg ho); clear ho hg; obtain ⟨⟨c0, c1, c2, c3, c4⟩, _⟩ := hf_cells HI.out.1; have hz := arr_ltN HI.out.1)
        | (go_at_call 19; go_fit (i1 _); rintro e w' ⟨rfl, hb⟩; (obtain ⟨hA, hb⟩ := hf_box hb); (obtain ⟨⟨c0, c1, c2, c3, c4⟩, _⟩ := hf_cells hA); have HA := Lib.hid (And.intro hA hb); clear hA hb)
        | (go_at_call 26; go_fit (i2 _); rintro e w2 ⟨rfl, hb2⟩; have HN := Lib.hid (nm_start HA.out.1 HA.out.2 hb2 q); clear hb2; obtain ⟨⟨c0, c1, c2, c3, c4⟩, _⟩ := hf_cells HN.out.1; have hz := arr_ltN HN.out.1)
        | (go_at_call 49; have _ := HI; go_fit (joined_row HI.out.2.2.1 (by simp) (by simp) (by simp [flat, size_data]; omega)); rintro e w5 ⟨rfl, hb5⟩; have HE := Lib.hid (HI.out.on hb5); clear hb5))
      go_ret
      refine ⟨ret_str ?_, HE.out.2.1⟩
      rw [← HS.out, nm_eq hk HQ.out, if_pos HI0.out, if_neg (fun e => e HO0.out)]
      exact joined_two _ _
    · have n1 : (h.o == 0) = false := by simp [ho0]
      have n2 : (h.i != 0) = false := by simp [hi0]
      have HO0 := Lib.hid ho0
      have HI0 := Lib.hid hi0
      clear ho0 hi0
      go_enter Try.func28, Try.ntmps28
      go_wp2_with (first
        | (at_builtin; have _ := HN; refine app_C strC_one strC_len Try.underlying69 info_strN rfl (by decide) (by decide) _ rfl _ _ rfl (w.heap.size + 1) _ [q] rfl (HN.out.2.2.1.alloc _) (w2.heap.size + 1) ⟨#[43, 111, 117, 116]⟩ rfl (by have h0 := Arr.fresh (w2.alloc (.cells #[.string q] 9)) 9 [.string (⟨#[43, 111, 117, 116]⟩ : ByteArray)]; rw [World.size_alloc] at h0; exact h0) (by simp) (Nat.le_trans HN.out.2.2.2 (by simp)) ?_; intro v' w' ho hg; obtain ⟨p', k', rfl, _⟩ := ho.row strC_len; have HO := Lib.hid ((HN.out.on ((Below.refl _ _).alloc (Nat.le_refl _) _)).grown hg ho); clear ho hg; obtain ⟨⟨c0, c1, c2, c3, c4⟩, _⟩ := hf_cells HO.out.1; have hz := arr_ltN HO.out.1)
        | (go_at_call 19; go_fit (i1 _); rintro e w' ⟨rfl, hb⟩; (obtain ⟨hA, hb⟩ := hf_box hb); (obtain ⟨⟨c0, c1, c2, c3, c4⟩, _⟩ := hf_cells hA); have HA := Lib.hid (And.intro hA hb); clear hA hb)
        | (go_at_call 26; go_fit (i2 _); rintro e w2 ⟨rfl, hb2⟩; have HN := Lib.hid (nm_start HA.out.1 HA.out.2 hb2 q); clear hb2; obtain ⟨⟨c0, c1, c2, c3, c4⟩, _⟩ := hf_cells HN.out.1; have hz := arr_ltN HN.out.1)
        | (go_at_call 49; have _ := HO; go_fit (joined_row HO.out.2.2.1 (by simp) (by simp) (by simp [flat, size_data]; omega)); rintro e w5 ⟨rfl, hb5⟩; have HE := Lib.hid (HO.out.on hb5); clear hb5))
      go_ret
      refine ⟨ret_str ?_, HE.out.2.1⟩
      rw [← HS.out, nm_eq hk HQ.out, if_neg (fun e => e HI0.out), if_pos HO0.out]
      exact joined_two _ _
    · have n1 : (h.o == 0) = false := by simp [ho0]
      have n2 : (h.i == 0) = false := by simp [hi0]
      have HO0 := Lib.hid ho0
      have HI0 := Lib.hid hi0
      clear ho0 hi0
      go_enter Try.func28, Try.ntmps28
      go_wp2_with (first
        | (at_builtin; have _ := HO; refine app_C strC_one strC_len Try.underlying69 info_strN rfl (by decide) (by decide) _ rfl _ _ rfl (w.heap.size + 1) _ ([q] ++ [⟨#[43, 111, 117, 116]⟩]) rfl (HO.out.2.2.1.alloc _) w'.heap.size ⟨#[43, 105, 110]⟩ rfl (Arr.fresh w' _ [.string (⟨#[43, 105, 110]⟩ : ByteArray)]) (by simp) (Nat.le_trans HO.out.2.2.2 (by simp)) ?_; intro v' w' ho hg; obtain ⟨p', k', rfl, _⟩ := ho.row strC_len; have HI := Lib.hid ((HO.out.on ((Below.refl _ _).alloc (Nat.le_refl _) _)).grown hg ho); clear ho hg; obtain ⟨⟨c0, c1, c2, c3, c4⟩, _⟩ := hf_cells HI.out.1; have hz := arr_ltN HI.out.1)
        | (at_builtin; have _ := HN; refine app_C strC_one strC_len Try.underlying69 info_strN rfl (by decide) (by decide) _ rfl _ _ rfl (w.heap.size + 1) _ [q] rfl (HN.out.2.2.1.alloc _) (w2.heap.size + 1) ⟨#[43, 111, 117, 116]⟩ rfl (by have h0 := Arr.fresh (w2.alloc (.cells #[.string q] 9)) 9 [.string (⟨#[43, 111, 117, 116]⟩ : ByteArray)]; rw [World.size_alloc] at h0; exact h0) (by simp) (Nat.le_trans HN.out.2.2.2 (by simp)) ?_; intro v' w' ho hg; obtain ⟨p', k', rfl, _⟩ := ho.row strC_len; have HO := Lib.hid ((HN.out.on ((Below.refl _ _).alloc (Nat.le_refl _) _)).grown hg ho); clear ho hg; obtain ⟨⟨c0, c1, c2, c3, c4⟩, _⟩ := hf_cells HO.out.1; have hz := arr_ltN HO.out.1)
        | (go_at_call 19; go_fit (i1 _); rintro e w' ⟨rfl, hb⟩; (obtain ⟨hA, hb⟩ := hf_box hb); (obtain ⟨⟨c0, c1, c2, c3, c4⟩, _⟩ := hf_cells hA); have HA := Lib.hid (And.intro hA hb); clear hA hb)
        | (go_at_call 26; go_fit (i2 _); rintro e w2 ⟨rfl, hb2⟩; have HN := Lib.hid (nm_start HA.out.1 HA.out.2 hb2 q); clear hb2; obtain ⟨⟨c0, c1, c2, c3, c4⟩, _⟩ := hf_cells HN.out.1; have hz := arr_ltN HN.out.1)
        | (go_at_call 49; have _ := HI; go_fit (joined_row HI.out.2.2.1 (by simp) (by simp) (by simp [flat, size_data]; omega)); rintro e w5 ⟨rfl, hb5⟩; have HE := Lib.hid (HI.out.on hb5); clear hb5))
      go_ret
      refine ⟨ret_str ?_, HE.out.2.1⟩
      rw [← HS.out, nm_eq hk HQ.out, if_pos HI0.out, if_pos HO0.out]
      exact joined_three _ _ _
  · rw [decide_eq_false hk] at i1
    go_enter Try.func28, Try.ntmps28
    go_wp2_with (go_at_call 19; go_fit (i1 _); rintro e w' ⟨rfl, hb⟩; (obtain ⟨hA, hb⟩ := hf_box hb))
    go_ret
    exact ⟨ret_str (by rw [← HS.out]; exact (if_neg hk).symm), hb⟩
end Go.Proofs.Ytgfpcmfcnphalaa
