/- What Bare answers, the program's and the specification's. -/
import Derived.Test.YtddefjnnehjjkaaJidText
import Derived.Deep.RegionHeld3
namespace Go.Proofs.Ytddefjnnehjjkaa
set_option linter.unusedSimpArgs false
set_option linter.unusedVariables false
open Go.RowKit

theorem cell_drew (w : World) (p : Addr) : w.drew.cell? p = w.cell? p := rfl
theorem size_drew (w : World) : w.drew.heap.size = w.heap.size := rfl
theorem one_at (w : World) (s : ByteArray) (t : Nat) : (w.alloc (.cells #[.string s] t)).cell? ⟨w.heap.size, 0, none⟩ = some (.string s) := (Arr.fresh w t [.string s]).cell 0
theorem one_over (w : World) (s : ByteArray) (o : Obj) (t : Nat) : ((w.alloc o).alloc (.cells #[.string s] t)).cell? ⟨w.heap.size + 1, 0, none⟩ = some (.string s) := by
  have := one_at (w.alloc o) s t
  rw [World.size_alloc] at this
  exact this
theorem one_old (w : World) (s : ByteArray) (o : Obj) (t : Nat) : ((w.alloc (.cells #[.string s] t)).alloc o).cell? ⟨w.heap.size, 0, none⟩ = some (.string s) :=
  (World.cell?_alloc_lt (w.alloc (.cells #[.string s] t)) o ⟨w.heap.size, 0, none⟩ (by simp)).trans (one_at w s t)
theorem one_at_d (w : World) (s : ByteArray) (t : Nat) : (w.alloc (.cells #[.string s] t)).drew.cell? ⟨w.heap.size, 0, none⟩ = some (.string s) := one_at w s t
theorem one_over_d (w : World) (s : ByteArray) (o : Obj) (t : Nat) : ((w.alloc o).alloc (.cells #[.string s] t)).drew.cell? ⟨w.heap.size + 1, 0, none⟩ = some (.string s) := one_over w s o t
theorem one_old_d (w : World) (s : ByteArray) (o : Obj) (t : Nat) : ((w.alloc (.cells #[.string s] t)).alloc o).drew.cell? ⟨w.heap.size, 0, none⟩ = some (.string s) := one_old w s o t
theorem one_over_b {w w2 : World} {s : ByteArray} {o : Obj} {t : Nat} (h : Below ((w.alloc o).alloc (.cells #[.string s] t)).drew.heap.size ((w.alloc o).alloc (.cells #[.string s] t)).drew w2) : w2.cell? ⟨w.heap.size + 1, 0, none⟩ = some (.string s) :=
  (h.cell (p := ⟨w.heap.size + 1, 0, none⟩) (by simp [size_drew])).trans (one_over_d w s o t)
theorem one_old_b {w w2 : World} {s : ByteArray} {o : Obj} {t : Nat} (h : Below ((w.alloc (.cells #[.string s] t)).alloc o).drew.heap.size ((w.alloc (.cells #[.string s] t)).alloc o).drew w2) : w2.cell? ⟨w.heap.size, 0, none⟩ = some (.string s) :=
  (h.cell (p := ⟨w.heap.size, 0, none⟩) (by simp [size_drew]; omega)).trans (one_old_d w s o t)
theorem lt_of_cellJ {w : World} {b i : Nat} {v : Value} (h : w.cell? ⟨b, i, none⟩ = some v) : b < w.heap.size := by
  rcases Nat.lt_or_ge b w.heap.size with h1 | h1
  · exact h1
  · simp [World.cell?, Array.getElem?_eq_none h1] at h
/-- joined of one string. -/
theorem joined_at (b : Nat) (s : ByteArray) (W : World) (hs : s.size ≤ 1000000) (hc : W.cell? ⟨b, 0, none⟩ = some (.string s)) :
    Calls Try.prog 43 #[.slice (some ⟨b, 0, none⟩) 1 1] W fun e w' => e = .returned (.string s) ∧ Below W.heap.size W w' := by
  have h := impl_joined b 1 [s] W (lt_of_cellJ hc) (fun j hj => by
    match j, hj with
    | 0, _ => exact hc) (by simp) (by rw [flat_one, size_data]; omega)
  rw [joined_one] at h
  exact h
theorem arr_alloc {w : World} {b t : Nat} {cs : List Value} (h : Arr w b t cs) (o : Obj) : Arr (w.alloc o) b t cs := by
  have hlt : b < w.heap.size := by
    rcases Nat.lt_or_ge b w.heap.size with h1 | h1
    · exact h1
    · unfold Arr at h; rw [Array.getElem?_eq_none h1] at h; cases h
  exact (Below.heap_alloc w o b hlt).trans h
theorem arr_below {w w1 : World} {b t : Nat} {cs : List Value} (h : Arr w b t cs) (hb : Below w.heap.size w w1) : Arr w1 b t cs := by
  have hlt : b < w.heap.size := by
    rcases Nat.lt_or_ge b w.heap.size with h1 | h1
    · exact h1
    · unfold Arr at h; rw [Array.getElem?_eq_none h1] at h; cases h
  exact (hb.block b hlt).trans h
/-- A block of three cells that the call has made for its answer. -/
def Res (W : World) (r : Nat) : Prop := ∃ a b c, Arr W r 24 [a, b, c]
def cellAt (W : World) (b i : Nat) : Value := (W.cell? ⟨b, i, none⟩).getD (.bool false)
/-- What stands at each step of Bare's last statement. -/
abbrev BareS (w : World) (l d r : ByteArray) (W : World) : Prop :=
  (W.cell? ⟨w.heap.size, 0, none⟩ = some (.string l) ∧ W.cell? ⟨w.heap.size, 1, none⟩ = some (.string d) ∧ W.cell? ⟨w.heap.size, 2, none⟩ = some (.string r) ∧
   W.cell? ⟨w.heap.size + 1, 0, none⟩ = some (cellAt W (w.heap.size + 1) 0) ∧ W.cell? ⟨w.heap.size + 1, 1, none⟩ = some (cellAt W (w.heap.size + 1) 1) ∧ W.cell? ⟨w.heap.size + 1, 2, none⟩ = some (cellAt W (w.heap.size + 1) 2) ∧
   W.frozen? ⟨w.heap.size + 1, 0, none⟩ = false ∧ W.frozen? ⟨w.heap.size + 1, 1, none⟩ = false ∧ W.frozen? ⟨w.heap.size + 1, 2, none⟩ = false) ∧
  (Below (w.alloc (.cells #[.string l, .string d, .string r] 24)).heap.size (w.alloc (.cells #[.string l, .string d, .string r] 24)) W ∧ Res W (w.heap.size + 1))
theorem bareS {w W : World} {l d r : ByteArray} (hb : Below (w.alloc (.cells #[.string l, .string d, .string r] 24)).heap.size (w.alloc (.cells #[.string l, .string d, .string r] 24)) W) (hr : Res W (w.heap.size + 1)) : BareS w l d r W := by
  obtain ⟨⟨c0, c1, c2⟩, _, _⟩ := three_kept hb
  obtain ⟨a, b, c, hA⟩ := id hr
  have e : ∀ i v, W.cell? ⟨w.heap.size + 1, i, none⟩ = some v → W.cell? ⟨w.heap.size + 1, i, none⟩ = some (cellAt W (w.heap.size + 1) i) := fun i v h => by unfold cellAt; rw [h]; rfl
  exact ⟨⟨c0, c1, c2, e 0 a (hA.cell 0), e 1 b (hA.cell 1), e 2 c (hA.cell 2), hA.free 0, hA.free 1, hA.free 2⟩, hb, hr⟩
theorem bareS_drew {w W : World} {l d r : ByteArray} {S : Prop} (h : S ∧ (Below (w.alloc (.cells #[.string l, .string d, .string r] 24)).heap.size (w.alloc (.cells #[.string l, .string d, .string r] 24)) W ∧ Res W (w.heap.size + 1))) : BareS w l d r W.drew :=
  bareS h.2.1.drew h.2.2
theorem bareS_alloc {w W : World} {l d r : ByteArray} {S : Prop} {o : Obj} (h : S ∧ (Below (w.alloc (.cells #[.string l, .string d, .string r] 24)).heap.size (w.alloc (.cells #[.string l, .string d, .string r] 24)) W ∧ Res W (w.heap.size + 1))) : BareS w l d r (W.alloc o) :=
  bareS (h.2.1.alloc h.2.1.size o) (by obtain ⟨a, b, c, hA⟩ := h.2.2; exact ⟨a, b, c, arr_alloc hA o⟩)
theorem bareS_alloc_drew {w W : World} {l d r : ByteArray} {S : Prop} {o : Obj} (h : S ∧ (Below (w.alloc (.cells #[.string l, .string d, .string r] 24)).heap.size (w.alloc (.cells #[.string l, .string d, .string r] 24)) W.drew ∧ Res W.drew (w.heap.size + 1))) : BareS w l d r (W.alloc o).drew :=
  bareS_alloc (W := W.drew) (o := o) h
theorem bareS_on {w W w2 : World} {l d r : ByteArray} {S : Prop} (h : S ∧ (Below (w.alloc (.cells #[.string l, .string d, .string r] 24)).heap.size (w.alloc (.cells #[.string l, .string d, .string r] 24)) W ∧ Res W (w.heap.size + 1))) (h2 : Below W.heap.size W w2) : BareS w l d r w2 :=
  bareS (h.2.1.trans (h2.mono h.2.1.size)) (by obtain ⟨a, b, c, hA⟩ := h.2.2; exact ⟨a, b, c, arr_below hA h2⟩)
theorem bareS_store {w W : World} {l d r : ByteArray} {S : Prop} {x y z : Value} (h : S ∧ (Below (w.alloc (.cells #[.string l, .string d, .string r] 24)).heap.size (w.alloc (.cells #[.string l, .string d, .string r] 24)) W ∧ Res W (w.heap.size + 1))) :
    BareS w l d r (((W.setCell ⟨w.heap.size + 1, 0, none⟩ x).setCell ⟨w.heap.size + 1, 1, none⟩ y).setCell ⟨w.heap.size + 1, 2, none⟩ z) :=
  bareS (below_three h.2.1 (by simp) x y z) (by obtain ⟨a, b, c, hA⟩ := h.2.2; exact ⟨x, y, z, ((hA.put 0 x).put 1 y).put 2 z⟩)

/-- What Bare answers. -/
noncomputable def bareV (l d r : ByteArray) : Value := if jidB l d r = true then .agg #[.string l, .string d, .string ⟨#[]⟩] else .agg #[.string ⟨#[]⟩, .string ⟨#[]⟩, .string ⟨#[]⟩]
theorem bareV_yes {l d r : ByteArray} (h : jidB l d r = true) : bareV l d r = .agg #[.string l, .string d, .string ⟨#[]⟩] := by unfold bareV; rw [if_pos h]
theorem bareV_no {l d r : ByteArray} (h : jidB l d r = false) : bareV l d r = .agg #[.string ⟨#[]⟩, .string ⟨#[]⟩, .string ⟨#[]⟩] := by unfold bareV; rw [if_neg (by rw [h]; exact Bool.false_ne_true)]
theorem bare_kept {w w1 : World} {a b c x y z : Value} {t u : Nat} (h : Below ((w.alloc (.cells #[a, b, c] t)).alloc (.cells #[x, y, z] u)).heap.size ((w.alloc (.cells #[a, b, c] t)).alloc (.cells #[x, y, z] u)) w1) :
    Arr w1 w.heap.size t [a, b, c] ∧ Arr w1 (w.heap.size + 1) u [x, y, z] ∧ Below (w.alloc (.cells #[a, b, c] t)).heap.size (w.alloc (.cells #[a, b, c] t)) w1 := by
  have h1 : Below (w.alloc (.cells #[a, b, c] t)).heap.size (w.alloc (.cells #[a, b, c] t)) w1 := below_one h
  refine ⟨(h1.block w.heap.size (by simp)).trans (Arr.fresh w t [a, b, c]), ?_, h1⟩
  have h2 : Arr w1 (w.alloc (.cells #[a, b, c] t)).heap.size u [x, y, z] := (h.block _ (by simp)).trans (Arr.fresh (w.alloc (.cells #[a, b, c] t)) u [x, y, z])
  rw [World.size_alloc] at h2
  exact h2
theorem arr_three {w : World} {g t : Nat} {a b c : Value} (h : Arr w g t [a, b, c]) : w.cell? ⟨g, 0, none⟩ = some a ∧ w.cell? ⟨g, 1, none⟩ = some b ∧ w.cell? ⟨g, 2, none⟩ = some c ∧ w.frozen? ⟨g, 0, none⟩ = false ∧ w.frozen? ⟨g, 1, none⟩ = false ∧ w.frozen? ⟨g, 2, none⟩ = false :=
  ⟨h.cell 0, h.cell 1, h.cell 2, h.free 0, h.free 1, h.free 2⟩
theorem arr_lt {w : World} {b t : Nat} {cs : List Value} (h : Arr w b t cs) : b < w.heap.size := by
  rcases Nat.lt_or_ge b w.heap.size with h1 | h1
  · exact h1
  · unfold Arr at h; rw [Array.getElem?_eq_none h1] at h; cases h

set_option maxHeartbeats 2000000 in
theorem spec_bare (l d r : ByteArray) (w : World) (hl : l.size ≤ maxLen) (hd : d.size ≤ maxLen) (hr : r.size ≤ maxLen) :
    Calls Try.prog 17 #[.agg #[.string l, .string d, .string r]] w fun e w' => e = .returned (bareV l d r) ∧ Below w.heap.size w w' := by
  obtain ⟨b, hb⟩ : ∃ b, jidB l d r = b := ⟨_, rfl⟩
  have i1 := fun w => spec_right l d r w hl hd hr
  rw [hb] at i1
  cases b
  · rw [bareV_no hb]
    clear hb
    go_enter Try.func17, Try.ntmps17
    go_wp2_with (go_at_call 15; go_fit (i1 _); rintro e w1 ⟨rfl, hb1⟩; obtain ⟨hA, hR, hb2⟩ := bare_kept hb1; have hz := arr_lt hR; obtain ⟨c0, c1, c2, f0, f1, f2⟩ := arr_three hR; have HA := Lib.hid hA; have HR := Lib.hid hR; clear hA hR)
    refine bodyPost_ret (v := .agg #[.string ⟨#[]⟩, .string ⟨#[]⟩, .string ⟨#[]⟩]) (by simp [results, Try.results17, go_sem, c0, c1, c2, hz]) rfl ⟨rfl, ?_⟩
    exact below_three (below_one hb2) (by omega) _ _ _
  · rw [bareV_yes hb]
    clear hb
    go_enter Try.func17, Try.ntmps17
    go_wp2_with (go_at_call 15; go_fit (i1 _); rintro e w1 ⟨rfl, hb1⟩; obtain ⟨hA, hR, hb2⟩ := bare_kept hb1; have hz := arr_lt hR; obtain ⟨a0, a1, a2, g0, g1, g2⟩ := arr_three hA; obtain ⟨c0, c1, c2, f0, f1, f2⟩ := arr_three hR; have HA := Lib.hid hA; have HR := Lib.hid hR; clear hA hR)
    refine bodyPost_ret (v := .agg #[.string l, .string d, .string ⟨#[]⟩]) (by simp [results, Try.results17, go_sem, c0, c1, c2, hz]) rfl ⟨rfl, ?_⟩
    exact below_three ((below_one hb2).setCell (Nat.le_refl _) _) (by omega) _ _ _

set_option maxHeartbeats 4000000 in
theorem impl_bare (l d r : ByteArray) (w : World) (hl : l.size ≤ maxLen) (hd : d.size ≤ maxLen) (hr : r.size ≤ maxLen) (hm : MaxL w) :
    Calls Try.prog 16 #[.agg #[.string l, .string d, .string r]] w fun e w' => e = .returned (bareV l d r) ∧ Below w.heap.size w w' := by
  obtain ⟨b, hb⟩ : ∃ b, jidB l d r = b := ⟨_, rfl⟩
  have hm1 : MaxL ((w.alloc (.cells #[.string l, .string d, .string r] 24)).alloc (.cells #[.string ⟨#[]⟩, .string ⟨#[]⟩, .string ⟨#[]⟩] 24)) := hm.below (((Below.refl w.heap.size w).alloc (Nat.le_refl _) _).alloc (by simp) _) hm.pos
  have i1 := impl_right l d r ((w.alloc (.cells #[.string l, .string d, .string r] 24)).alloc (.cells #[.string ⟨#[]⟩, .string ⟨#[]⟩, .string ⟨#[]⟩] 24)) hl hd hr hm1
  clear hm1 hm
  rw [hb] at i1
  cases b
  · rw [bareV_no hb]
    clear hb
    go_enter Try.func16, Try.ntmps16
    go_wp2_with (go_at_call 14; go_fit i1; rintro e w1 ⟨rfl, hb1⟩; obtain ⟨hA, hR, hb2⟩ := bare_kept hb1; have hz := arr_lt hR; obtain ⟨c0, c1, c2, f0, f1, f2⟩ := arr_three hR; have HA := Lib.hid hA; have HR := Lib.hid hR; clear hA hR)
    refine bodyPost_ret (v := .agg #[.string ⟨#[]⟩, .string ⟨#[]⟩, .string ⟨#[]⟩]) (by simp [results, Try.results16, go_sem, c0, c1, c2, hz]) rfl ⟨rfl, ?_⟩
    exact below_three (below_one hb2) (by omega) _ _ _
  · rw [bareV_yes hb]
    obtain ⟨q1, q2, q3⟩ := right_le hb
    have k1 : l.size ≤ 1000000 := by omega
    have k2 : d.size ≤ 1000000 := by omega
    clear hb q1 q2 q3
    go_enter Try.func16, Try.ntmps16
    go_wp2_with (go_at_call 14; go_fit i1; rintro e w1 ⟨rfl, hb1⟩; obtain ⟨hA, hR, hb2⟩ := bare_kept hb1)
    have hS : BareS w l d r w1.drew := bareS hb2.drew ⟨_, _, _, hR⟩
    have HS := Lib.hid hS
    clear hA hR hb1 i1 hS
    go_region_held3 (fun W => (W.cell? ⟨w.heap.size, 0, none⟩ = some (.string l) ∧ W.cell? ⟨w.heap.size, 1, none⟩ = some (.string d) ∧ W.cell? ⟨w.heap.size, 2, none⟩ = some (.string r) ∧
   W.cell? ⟨w.heap.size + 1, 0, none⟩ = some (cellAt W (w.heap.size + 1) 0) ∧ W.cell? ⟨w.heap.size + 1, 1, none⟩ = some (cellAt W (w.heap.size + 1) 1) ∧ W.cell? ⟨w.heap.size + 1, 2, none⟩ = some (cellAt W (w.heap.size + 1) 2) ∧
   W.frozen? ⟨w.heap.size + 1, 0, none⟩ = false ∧ W.frozen? ⟨w.heap.size + 1, 1, none⟩ = false ∧ W.frozen? ⟨w.heap.size + 1, 2, none⟩ = false) ∧
  (Below (w.alloc (.cells #[.string l, .string d, .string r] 24)).heap.size (w.alloc (.cells #[.string l, .string d, .string r] 24)) W ∧ Res W (w.heap.size + 1)))
      (with_reducible first | assumption | exact HS.out | exact bareS_on (by assumption) hbN | exact bareS_alloc (by assumption) | exact bareS_alloc_drew (by assumption) | exact bareS_store (by assumption))
      (first
        | (go_at_call 43; (with_reducible refine (joined_at _ l _ k1 ?_).mono ?_); (with_reducible first | exact one_at _ _ _ | exact one_at_d _ _ _ | exact one_over _ _ _ _ | exact one_over_d _ _ _ _ | exact one_old _ _ _ _ | exact one_old_d _ _ _ _ | exact one_over_b hbN | exact one_old_b hbN); rintro e w2 ⟨rfl, hbN⟩; have hrN := (bareS_on (by assumption) hbN).2.2)
        | (go_at_call 43; (with_reducible refine (joined_at _ d _ k2 ?_).mono ?_); (with_reducible first | exact one_at _ _ _ | exact one_at_d _ _ _ | exact one_over _ _ _ _ | exact one_over_d _ _ _ _ | exact one_old _ _ _ _ | exact one_old_d _ _ _ _ | exact one_over_b hbN | exact one_old_b hbN); rintro e w2 ⟨rfl, hbN⟩; have hrN := (bareS_on (by assumption) hbN).2.2))
    all_goals
      obtain ⟨_, hbF, hRF⟩ := bareS_on (by assumption) (Below.refl _ _)
      have HB := Lib.hid (below_one hbF)
      obtain ⟨x, y, z, hA⟩ := hrN
      have hF : Arr _ (w.heap.size + 1) 24 [.string l, .string d, .string ⟨#[]⟩] := ((hA.put 0 (.string l)).put 1 (.string d)).put 2 (.string ⟨#[]⟩)
      have hz := arr_lt hF
      obtain ⟨c0, c1, c2, _, _, _⟩ := arr_three hF
      clear hbF hRF hA hF
      go_wp2
      exact bodyPost_ret (v := .agg #[.string l, .string d, .string ⟨#[]⟩]) (by simp [results, Try.results16, go_sem, c0, c1, c2] at hz ⊢; try omega) rfl ⟨rfl, HB.out⟩
end Go.Proofs.Ytddefjnnehjjkaa
