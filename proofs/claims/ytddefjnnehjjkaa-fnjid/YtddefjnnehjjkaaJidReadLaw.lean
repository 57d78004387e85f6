/- What spec.JidRead answers, and FnExactJidRead's walk. -/
import Derived.Test.YtddefjnnehjjkaaJidReadS
namespace Go.Proofs.Ytddefjnnehjjkaa
set_option linter.unusedSimpArgs false
set_option linter.unusedVariables false
open Go.RowKit

theorem spec_l03read (s : ByteArray) (w : World) (hs : s.size ≤ 20000) : Calls Try.prog 49 #[.string s] w (ReadsTo s.data.toList w) := by
  rcases cut_form s.data.toList 47 with ⟨A, R, hT, hA⟩ | hA
  · by_cases hR : R = []
    · exact spec_read1 s w hs A R hT hA hR
    · rcases cut_form (A.map lowC) 64 with ⟨B, D, hq, hB⟩ | hB
      · by_cases hBn : B = []
        · exact spec_read2 s w hs A R hT hA hR B D hq hB hBn
        · exact spec_read3 s w hs A R hT hA hR B D hq hB hBn
      · exact spec_read4 s w hs A R hT hA hR hB
  · rcases cut_form (s.data.toList.map lowC) 64 with ⟨B, D, hq, hB⟩ | hB
    · by_cases hBn : B = []
      · exact spec_read5 s w hs _ rfl hA B D hq hB hBn
      · exact spec_read6 s w hs _ rfl hA B D hq hB hBn
    · exact spec_read7 s w hs _ rfl hA hB

set_option maxRecDepth 100000 in
set_option maxHeartbeats 4000000 in
theorem spec_read (s : ByteArray) (w : World) (hs : s.size ≤ maxLen) :
    Calls Try.prog 21 #[.string s] w fun e w' => e = .returned (jidReadV s) ∧ Below w.heap.size w w' := by
  unfold maxLen at hs
  unfold jidReadV
  by_cases hbig : 20000 < s.size
  · rw [if_pos hbig]
    go_enter Try.func21, Try.ntmps21
    go_wp2
    exact bodyPost_ret (v := jo ⟨#[]⟩ ⟨#[]⟩ ⟨#[]⟩ 2) (by simp [results, Try.results21, go_sem, jo]) rfl ⟨rfl, (Below.refl _ _).alloc (Nat.le_refl _) _⟩
  · rw [if_neg hbig]
    have i1 := fun w => spec_l03read s w (by omega)
    obtain ⟨b, hb⟩ : ∃ b, goodR s.data.toList = b := ⟨_, rfl⟩
    rw [hb]
    have HB := Lib.hid hb
    clear hb
    cases b
    · rw [if_neg Bool.false_ne_true]
      go_enter Try.func21, Try.ntmps21
      go_wp2_with (go_at_call 49; go_fit (i1 _); rintro e w1 ⟨⟨x, y, z, b, rfl, hg, _⟩, hb⟩; rw [HB.out] at hg; subst hg; have hR : Arr w1 w.heap.size 31 [.string ⟨#[]⟩, .string ⟨#[]⟩, .string ⟨#[]⟩, .int .i64 0] := arr_below (Arr.fresh w _ _) hb; replace hb := below_one hb; have hz := arr_lt hR; obtain ⟨⟨c0, c1, c2, c3⟩, f0, f1, f2, f3⟩ := arr_four hR; clear hR)
      exact bodyPost_ret (v := jo ⟨#[]⟩ ⟨#[]⟩ ⟨#[]⟩ 3) (by simp [results, Try.results21, go_sem, c0, c1, c2, c3, hz, jo]; try omega) rfl ⟨rfl, (below_four hb (Nat.le_refl _) _ _ _ _).alloc (by have := hb.size; simpa [World.setCell] using this) _⟩
    · rw [if_pos rfl]
      obtain ⟨l, hl⟩ : ∃ l, l = strOf (readL s.data.toList).1 := ⟨_, rfl⟩
      obtain ⟨d, hd⟩ : ∃ d, d = strOf (readL s.data.toList).2.1 := ⟨_, rfl⟩
      obtain ⟨r, hr⟩ : ∃ r, r = strOf (readL s.data.toList).2.2 := ⟨_, rfl⟩
      rw [← hl, ← hd, ← hr]
      have H1 := Lib.hid hl
      have H2 := Lib.hid hd
      have H3 := Lib.hid hr
      clear hl hd hr
      go_enter Try.func21, Try.ntmps21
      go_wp2_with (go_at_call 49; go_fit (i1 _); rintro e w1 ⟨⟨x, y, z, b, rfl, hg, hx⟩, hb⟩; rw [HB.out] at hg; subst hg; obtain ⟨e1, e2, e3⟩ := hx rfl; clear hx; rw [← H1.out] at e1; rw [← H2.out] at e2; rw [← H3.out] at e3; subst e1 e2 e3; have hR : Arr w1 w.heap.size 31 [.string ⟨#[]⟩, .string ⟨#[]⟩, .string ⟨#[]⟩, .int .i64 0] := arr_below (Arr.fresh w _ _) hb; replace hb := below_one hb; have hz := arr_lt hR; obtain ⟨⟨c0, c1, c2, c3⟩, f0, f1, f2, f3⟩ := arr_four hR; clear hR)
      exact bodyPost_ret (v := jo x y z 0) (by simp [results, Try.results21, go_sem, c0, c1, c2, c3, hz, jo]; try omega) rfl ⟨rfl, (below_four hb (Nat.le_refl _) _ _ _ _).alloc (by have := hb.size; simpa [World.setCell] using this) _⟩

theorem readV_form (s : ByteArray) : ∃ l d r c, jidReadV s = jo l d r c := by
  unfold jidReadV
  split
  · exact ⟨_, _, _, _, rfl⟩
  · split <;> exact ⟨_, _, _, _, rfl⟩
/-- A box of four cells that was laid ahead of a call stands behind it. -/
theorem four_kept {w w1 : World} {a b c d : Value} {t : Nat} (h : Below (w.alloc (.cells #[a, b, c, d] t)).heap.size (w.alloc (.cells #[a, b, c, d] t)) w1) :
    (w1.cell? ⟨w.heap.size, 0, none⟩ = some a ∧ w1.cell? ⟨w.heap.size, 1, none⟩ = some b ∧ w1.cell? ⟨w.heap.size, 2, none⟩ = some c ∧ w1.cell? ⟨w.heap.size, 3, none⟩ = some d) ∧ w.heap.size < w1.heap.size := by
  have hA : Arr w1 w.heap.size t [a, b, c, d] := (h.block w.heap.size (by simp)).trans (Arr.fresh w t [a, b, c, d])
  exact ⟨(arr_four hA).1, arr_lt hA⟩
set_option maxHeartbeats 2000000 in
theorem read_law (w : World) (a0 : ByteArray) (w0 : a0.size ≤ maxLen) (hm : MaxL w) :
    Calls Try.prog 7 #[.string a0] w fun e w' => e = .returned (.bool true) ∧ Below w.heap.size w w' := by
  have i1 := fun w => spec_read a0 w w0
  have i2 := fun w => impl_read a0 w w0
  unfold maxLen at w0
  by_cases hbig : 1048576 < a0.size
  · clear i1 i2 hm
    go_enter Try.func7, Try.ntmps7
    go_wp2
    go_ret
    exact ⟨rfl, Below.refl _ _⟩
  · obtain ⟨l, d, r, c, hv⟩ := readV_form a0
    rw [hv] at i1 i2
    unfold jo at i1 i2
    clear hv
    have i3 := fun w => eq_jidout l d r l d r c c w
    rw [show (eqJ l d r l d r && (c == c)) = true by unfold eqJ; simp] at i3
    have HM := Lib.hid (fun W (h : Below w.heap.size w W) => hm.below h hm.pos)
    clear hm
    go_enter Try.func7, Try.ntmps7
    go_wp2_with (first
      | (go_at_call 21; go_fit (i1 _); rintro e w1 ⟨rfl, hb⟩)
      | (go_at_call 19; go_fit (i2 _ (HM.out _ (hb.alloc hb.size _))); rintro e w2 ⟨rfl, hb2⟩; obtain ⟨⟨k0, k1, k2, k3⟩, hk⟩ := four_kept hb2; replace hb := hb.trans ((below_one hb2).mono hb.size))
      | (go_at_call 30; go_fit (i3 _); rintro e w3 ⟨rfl, hb3⟩; replace hb := hb.trans ((below_one hb3).mono hb.size)))
    go_ret
    exact ⟨rfl, hb⟩
end Go.Proofs.Ytddefjnnehjjkaa
