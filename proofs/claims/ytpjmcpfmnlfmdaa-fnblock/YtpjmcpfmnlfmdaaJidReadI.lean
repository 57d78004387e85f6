/- What impl.JidRead answers. -/
import Derived.Test.YtpjmcpfmnlfmdaaJidRead
namespace Go.Proofs.Ytpjmcpfmnlfmdaa
set_option linter.unusedSimpArgs false
set_option linter.unusedVariables false
open Go.RowKit

def jo (l d r : ByteArray) (c : Int) : Value := .agg #[.string l, .string d, .string r, .int .i64 c]
noncomputable def goodR (T : List UInt8) : Bool := shapeL T && jidB (strOf (readL T).1) (strOf (readL T).2.1) (strOf (readL T).2.2)
/-- What JidRead answers. -/
noncomputable def jidReadV (s : ByteArray) : Value :=
  if 20000 < s.size then jo ⟨#[]⟩ ⟨#[]⟩ ⟨#[]⟩ 2 else if goodR s.data.toList = true then jo (strOf (readL s.data.toList).1) (strOf (readL s.data.toList).2.1) (strOf (readL s.data.toList).2.2) 0 else jo ⟨#[]⟩ ⟨#[]⟩ ⟨#[]⟩ 3
theorem arr_four {w : World} {g t : Nat} {a b c d : Value} (h : Arr w g t [a, b, c, d]) : (w.cell? ⟨g, 0, none⟩ = some a ∧ w.cell? ⟨g, 1, none⟩ = some b ∧ w.cell? ⟨g, 2, none⟩ = some c ∧ w.cell? ⟨g, 3, none⟩ = some d) ∧ w.frozen? ⟨g, 0, none⟩ = false ∧ w.frozen? ⟨g, 1, none⟩ = false ∧ w.frozen? ⟨g, 2, none⟩ = false ∧ w.frozen? ⟨g, 3, none⟩ = false :=
  ⟨⟨h.cell 0, h.cell 1, h.cell 2, h.cell 3⟩, h.free 0, h.free 1, h.free 2, h.free 3⟩
theorem below_four {B g : Nat} {w w1 : World} (h : Below B w w1) (hg : B ≤ g) (x y z u : Value) : Below B w ((((w1.setCell ⟨g, 0, none⟩ x).setCell ⟨g, 1, none⟩ y).setCell ⟨g, 2, none⟩ z).setCell ⟨g, 3, none⟩ u) :=
  (below_three h hg x y z).setCell (p := ⟨g, 3, none⟩) hg u
theorem jidT_text (p : List UInt8 × List UInt8 × List UInt8) : jidT (strOf p.1) (strOf p.2.1) (strOf p.2.2) = strOf (textL p) := by
  unfold jidT textL
  rw [flat_five]
  have e : ∀ (m : ByteArray) (c : UInt8) (x : List UInt8), m = ⟨#[c]⟩ → (markOf m (strOf x)).data.toList = if x = [] then [] else [c] := by
    intro m c x hm
    subst hm
    unfold markOf
    rw [strOf_size]
    cases x with
    | nil => rfl
    | cons y x => rfl
  rw [e atS 64 _ rfl, e slS 47 _ rfl, strOf_data, strOf_data, strOf_data]
theorem text_same (T : List UInt8) : ((jidT (strOf (readL T).1) (strOf (readL T).2.1) (strOf (readL T).2.2)).toList == (strOf (lowL T)).toList) = shapeL T := by
  rw [jidT_text, ByteArray.toList_eq, ByteArray.toList_eq, strOf_data, strOf_data, Bool.eq_iff_iff, beq_iff_eq, ← parts_read, text_shape]

set_option maxRecDepth 100000 in
set_option maxHeartbeats 4000000 in
theorem impl_read (s : ByteArray) (w : World) (hs : s.size ≤ maxLen) (hm : MaxL w) :
    Calls Try.prog 56 #[.string s] w fun e w' => e = .returned (jidReadV s) ∧ Below w.heap.size w w' := by
  unfold maxLen at hs
  unfold jidReadV
  by_cases hbig : 20000 < s.size
  · rw [if_pos hbig]
    clear hm
    go_enter Try.func56, Try.ntmps56
    go_wp2
    exact bodyPost_ret (v := jo ⟨#[]⟩ ⟨#[]⟩ ⟨#[]⟩ 2) (by simp [results, Try.results56, go_sem, jo]) rfl ⟨rfl, (Below.refl _ _).alloc (Nat.le_refl _) _⟩
  · rw [if_neg hbig]
    have i1 := fun w hm => impl_lowered s w (by omega) hm
    have hlen : s.data.toList.length = s.size := size_data s
    obtain ⟨T, hT⟩ : ∃ T, T = s.data.toList := ⟨_, rfl⟩
    rw [← hT] at i1 hlen ⊢
    clear hT
    have hll : (lowL T).length = T.length := by rw [(lowL_to T).1, lowTo_len]
    have i2 := fun w hm => impl_parts (strOf (lowL T)) w (by rw [strOf_size]; omega) hm
    rw [strOf_data, parts_read] at i2
    unfold jidP at i2
    obtain ⟨r1, r2, r3⟩ := read_le T
    have hts := text_same T
    unfold goodR
    obtain ⟨l, hl⟩ : ∃ l, l = strOf (readL T).1 := ⟨_, rfl⟩
    obtain ⟨d, hd⟩ : ∃ d, d = strOf (readL T).2.1 := ⟨_, rfl⟩
    obtain ⟨r, hr⟩ : ∃ r, r = strOf (readL T).2.2 := ⟨_, rfl⟩
    have z1 : l.size ≤ 20000 := by rw [hl, strOf_size]; omega
    have z2 : d.size ≤ 20000 := by rw [hd, strOf_size]; omega
    have z3 : r.size ≤ 20000 := by rw [hr, strOf_size]; omega
    rw [← hl, ← hd, ← hr] at i2 hts ⊢
    clear hl hd hr r1 r2 r3
    have i3 := fun w hm => impl_right l d r w (by unfold maxLen; omega) (by unfold maxLen; omega) (by unfold maxLen; omega) hm
    have i4 := fun w => impl_addr l d r w (by omega) (by omega) (by omega)
    obtain ⟨U, hU⟩ : ∃ U, U = strOf (lowL T) := ⟨_, rfl⟩
    obtain ⟨X, hX⟩ : ∃ X, X = jidT l d r := ⟨_, rfl⟩
    rw [← hU] at i1 i2 hts
    rw [← hX] at i4 hts
    clear hU hX hll
    obtain ⟨b1, hb1⟩ : ∃ b, shapeL T = b := ⟨_, rfl⟩
    obtain ⟨b2, hb2⟩ : ∃ b, jidB l d r = b := ⟨_, rfl⟩
    rw [hb1] at hts ⊢
    rw [hb2] at i3 ⊢
    clear hb1 hb2
    have HM := Lib.hid (fun W (h : Below w.heap.size w W) => hm.below h hm.pos)
    clear hm
    cases b2
    · rw [Bool.and_false, if_neg Bool.false_ne_true]
      go_enter Try.func56, Try.ntmps56
      go_wp2_with (first
        | (go_at_call 81; go_fit (i1 _ (HM.out _ ((Below.refl _ _).alloc (Nat.le_refl _) _))); rintro e w1 ⟨rfl, hb⟩; have hR : Arr w1 w.heap.size 71 [.string ⟨#[]⟩, .string ⟨#[]⟩, .string ⟨#[]⟩, .int .i64 0] := arr_below (Arr.fresh w _ _) hb; replace hb := below_one hb; have HR := Lib.hid hR; clear hR)
        | (go_at_call 82; go_fit (i2 _ (HM.out _ hb)); rintro e w2 ⟨rfl, hb2⟩; have hR := arr_below HR.out hb2; have HR := Lib.hid hR; replace hb := hb.trans (hb2.mono hb.size); clear hR hb2)
        | (go_at_call 83; go_fit (i3 _ (HM.out _ (hb.alloc hb.size _))); rintro e w3 ⟨rfl, hb3⟩; have hR := arr_below HR.out (below_one hb3); have hz := arr_lt hR; obtain ⟨⟨c0, c1, c2, c3⟩, f0, f1, f2, f3⟩ := arr_four hR; replace hb := hb.trans ((below_one hb3).mono hb.size); clear hR))
      exact bodyPost_ret (v := jo ⟨#[]⟩ ⟨#[]⟩ ⟨#[]⟩ 3) (by simp [results, Try.results56, go_sem, c0, c1, c2, c3, hz, jo]) rfl ⟨rfl, below_four hb (Nat.le_refl _) _ _ _ _⟩
    · cases b1
      · rw [Bool.and_true, if_neg Bool.false_ne_true]
        go_enter Try.func56, Try.ntmps56
        go_wp2_with (first
        | (go_at_call 81; go_fit (i1 _ (HM.out _ ((Below.refl _ _).alloc (Nat.le_refl _) _))); rintro e w1 ⟨rfl, hb⟩; have hR : Arr w1 w.heap.size 71 [.string ⟨#[]⟩, .string ⟨#[]⟩, .string ⟨#[]⟩, .int .i64 0] := arr_below (Arr.fresh w _ _) hb; replace hb := below_one hb; have HR := Lib.hid hR; clear hR)
        | (go_at_call 82; go_fit (i2 _ (HM.out _ hb)); rintro e w2 ⟨rfl, hb2⟩; have hR := arr_below HR.out hb2; have HR := Lib.hid hR; replace hb := hb.trans (hb2.mono hb.size); clear hR hb2)
        | (go_at_call 83; go_fit (i3 _ (HM.out _ (hb.alloc hb.size _))); rintro e w3 ⟨rfl, hb3⟩; obtain ⟨⟨k0, k1, k2⟩, _, hk⟩ := three_kept hb3; have hR := arr_below HR.out (below_one hb3); have HR := Lib.hid hR; replace hb := hb.trans ((below_one hb3).mono hb.size); clear hR hb3)
        | (go_at_call 84; go_fit (i4 _); rintro e w4 ⟨rfl, hb4⟩; have hR := arr_below HR.out hb4; have hz := arr_lt hR; obtain ⟨⟨c0, c1, c2, c3⟩, f0, f1, f2, f3⟩ := arr_four hR; have q0 := (hb4.cell (p := ⟨w2.heap.size, 0, none⟩) hk).trans k0; have q1 := (hb4.cell (p := ⟨w2.heap.size, 1, none⟩) hk).trans k1; have q2 := (hb4.cell (p := ⟨w2.heap.size, 2, none⟩) hk).trans k2; replace hb := hb.trans (hb4.mono hb.size); clear hR))
        exact bodyPost_ret (v := jo ⟨#[]⟩ ⟨#[]⟩ ⟨#[]⟩ 3) (by simp [results, Try.results56, go_sem, c0, c1, c2, c3, hz, jo]) rfl ⟨rfl, below_four hb (Nat.le_refl _) _ _ _ _⟩
      · rw [Bool.and_true, if_pos rfl]
        go_enter Try.func56, Try.ntmps56
        go_wp2_with (first
        | (go_at_call 81; go_fit (i1 _ (HM.out _ ((Below.refl _ _).alloc (Nat.le_refl _) _))); rintro e w1 ⟨rfl, hb⟩; have hR : Arr w1 w.heap.size 71 [.string ⟨#[]⟩, .string ⟨#[]⟩, .string ⟨#[]⟩, .int .i64 0] := arr_below (Arr.fresh w _ _) hb; replace hb := below_one hb; have HR := Lib.hid hR; clear hR)
        | (go_at_call 82; go_fit (i2 _ (HM.out _ hb)); rintro e w2 ⟨rfl, hb2⟩; have hR := arr_below HR.out hb2; have HR := Lib.hid hR; replace hb := hb.trans (hb2.mono hb.size); clear hR hb2)
        | (go_at_call 83; go_fit (i3 _ (HM.out _ (hb.alloc hb.size _))); rintro e w3 ⟨rfl, hb3⟩; obtain ⟨⟨k0, k1, k2⟩, _, hk⟩ := three_kept hb3; have hR := arr_below HR.out (below_one hb3); have HR := Lib.hid hR; replace hb := hb.trans ((below_one hb3).mono hb.size); clear hR hb3)
        | (go_at_call 84; go_fit (i4 _); rintro e w4 ⟨rfl, hb4⟩; have hR := arr_below HR.out hb4; have hz := arr_lt hR; obtain ⟨⟨c0, c1, c2, c3⟩, f0, f1, f2, f3⟩ := arr_four hR; have q0 := (hb4.cell (p := ⟨w2.heap.size, 0, none⟩) hk).trans k0; have q1 := (hb4.cell (p := ⟨w2.heap.size, 1, none⟩) hk).trans k1; have q2 := (hb4.cell (p := ⟨w2.heap.size, 2, none⟩) hk).trans k2; replace hb := hb.trans (hb4.mono hb.size); clear hR))
        exact bodyPost_ret (v := jo l d r 0) (by simp [results, Try.results56, go_sem, c0, c1, c2, c3, hz, jo]) rfl ⟨rfl, below_four hb (Nat.le_refl _) _ _ _ _⟩
end Go.Proofs.Ytpjmcpfmnlfmdaa
