/- laws.FnExactMatches returns true at every input, and its arguments read afterwards as they read before. Conditions: none beyond the given statement's own. -/
import Derived.Test.YtddefjnnehjjkaaRows
import Derived.WalkKit
import Derived.ProofKit
import Derived.OpenShut
import Derived.ShutString
import Derived.ChangeOld
import Derived.Below
import Derived.HandedShaped
import Derived.Lib.SmallJoins
import Derived.Test.YtddefjnnehjjkaaJidMatch
import Derived.Test.YtddefjnnehjjkaaJidHeld
namespace Go.Proofs.Ytddefjnnehjjkaa.fnExactMatches
open Go.ChangeShapes Go.WideShapes Go.ChangeAt Go.RowKit Go.Joins
open Go.ChangeMaps (open_string shut_string)
set_option linter.unusedVariables false
set_option linter.unusedSimpArgs false

theorem own : ownKnob Try.prog.godebug = none := by kernel_rfl
theorem cellsJid : Try.prog.cellsOf 38 = 3 := by kernel_rfl
theorem jidReads {H : Type} {enc : TypeId × Value → H} {W : World} {base : Nat} {sp : Nat → Bool} {held : Bool} {l d r : ByteArray} (hl : l.size ≤ maxLen) (hd : d.size ≤ maxLen) (hr : r.size ≤ maxLen) :
    DataW.Trod enc Try.prog W base sp held 38 (.agg #[.string l, .string d, .string r]) (.agg [.lit (.string l.data.toList), .lit (.string d.data.toList), .lit (.string r.data.toList)]) [] :=
  shut_agg3 (y0 := (.lit (.string l.data.toList), [])) (y1 := (.lit (.string d.data.toList), [])) (y2 := (.lit (.string r.data.toList), [])) Try.underlying38 (by kernel_rfl) cellsJid
    ⟨1, by simp [DataW.trod, Try.underlying9, hl]⟩ ⟨1, by simp [DataW.trod, Try.underlying9, hd]⟩ ⟨1, by simp [DataW.trod, Try.underlying9, hr]⟩

theorem walk (w : World) (l0 d0 r0 : ByteArray) (xl0 : l0.size ≤ maxLen) (xd0 : d0.size ≤ maxLen) (xr0 : r0.size ≤ maxLen) (l1 d1 r1 : ByteArray) (xl1 : l1.size ≤ maxLen) (xd1 : d1.size ≤ maxLen) (xr1 : r1.size ≤ maxLen) (hm : MaxL w) :
    Calls Try.prog 10 #[.agg #[.string l0, .string d0, .string r0], .agg #[.string l1, .string d1, .string r1]] w fun e w' => e = .returned (.bool true) ∧ Below w.heap.size w w' := by
  unfold maxLen at xl0 xd0 xr0 xl1 xd1 xr1
  have HK := Lib.hid (fun w1 (h : Below ((w.alloc (.cells #[.string l0, .string d0, .string r0] 38)).alloc (.cells #[.string l1, .string d1, .string r1] 38)).heap.size ((w.alloc (.cells #[.string l0, .string d0, .string r0] 38)).alloc (.cells #[.string l1, .string d1, .string r1] 38)) w1) => six_kept h)
  have HM := Lib.hid (fun w1 (h : Below ((w.alloc (.cells #[.string l0, .string d0, .string r0] 38)).alloc (.cells #[.string l1, .string d1, .string r1] 38)).heap.size ((w.alloc (.cells #[.string l0, .string d0, .string r0] 38)).alloc (.cells #[.string l1, .string d1, .string r1] 38)) w1) => hm.below (below_one (below_one h)) hm.pos)
  have i1 := fun w => spec_match l0 d0 r0 l1 d1 r1 w xl0 xd0 xr0 xl1 xd1 xr1
  have i2 := fun w => impl_match l0 d0 r0 l1 d1 r1 w xl0 xd0 xr0 xl1 xd1 xr1
  obtain ⟨v, hv⟩ : ∃ v, matchJ l0 d0 r0 l1 d1 r1 = v := ⟨_, rfl⟩
  rw [hv] at i1 i2
  clear hv hm
  go_enter Try.func10, Try.ntmps10
  go_wp2_with (first
    | (go_at_call 28; go_fit (sz_jid l0 d0 r0 _ _ xl0 xd0 xr0 (by omega) (by omega)); rintro e w1 ⟨⟨z, rfl, hz⟩, hb⟩; obtain ⟨⟨c0, c1, c2⟩, ⟨k0, k1, k2⟩, _⟩ := HK.out _ hb)
    | (go_at_call 28; go_fit (sz_jid l1 d1 r1 _ _ xl1 xd1 xr1 (by omega) (by omega)); rintro e w2 ⟨⟨z2, rfl, hz2⟩, hb2⟩; replace hb := hb.trans (hb2.mono hb.size); clear hb2; obtain ⟨⟨c0, c1, c2⟩, ⟨k0, k1, k2⟩, _⟩ := HK.out _ hb))
  all_goals try (go_ret; exact ⟨rfl, below_one (below_one hb)⟩; done)
  all_goals
    go_region_held3 (fun W => (W.cell? ⟨w.heap.size, 0, none⟩ = some (.string l0) ∧ W.cell? ⟨w.heap.size, 1, none⟩ = some (.string d0) ∧ W.cell? ⟨w.heap.size, 2, none⟩ = some (.string r0) ∧ W.cell? ⟨w.heap.size + 1, 0, none⟩ = some (.string l1) ∧ W.cell? ⟨w.heap.size + 1, 1, none⟩ = some (.string d1) ∧ W.cell? ⟨w.heap.size + 1, 2, none⟩ = some (.string r1)) ∧ Below ((w.alloc (.cells #[.string l0, .string d0, .string r0] 38)).alloc (.cells #[.string l1, .string d1, .string r1] 38)).heap.size ((w.alloc (.cells #[.string l0, .string d0, .string r0] 38)).alloc (.cells #[.string l1, .string d1, .string r1] 38)) W)
      (first | assumption | exact held_six hbN | exact held_six hb.drew)
      (first
        | (go_at_call 29; go_fit (to_jid l0 d0 r0 _); rintro e w2 ⟨rfl, hb2⟩; have hbN := held_on (by assumption) hb2)
        | (go_at_call 29; go_fit (to_jid l1 d1 r1 _); rintro e w2 ⟨rfl, hb2⟩; have hbN := held_on (by assumption) hb2)
        | (go_at_call 27; go_fit (i1 _); rintro e w2 ⟨rfl, hb2⟩; have hbN := held_on (by assumption) hb2))
  all_goals
    go_wp2
    go_region_held3 (fun W => (W.cell? ⟨w.heap.size, 0, none⟩ = some (.string l0) ∧ W.cell? ⟨w.heap.size, 1, none⟩ = some (.string d0) ∧ W.cell? ⟨w.heap.size, 2, none⟩ = some (.string r0) ∧ W.cell? ⟨w.heap.size + 1, 0, none⟩ = some (.string l1) ∧ W.cell? ⟨w.heap.size + 1, 1, none⟩ = some (.string d1) ∧ W.cell? ⟨w.heap.size + 1, 2, none⟩ = some (.string r1)) ∧ Below ((w.alloc (.cells #[.string l0, .string d0, .string r0] 38)).alloc (.cells #[.string l1, .string d1, .string r1] 38)).heap.size ((w.alloc (.cells #[.string l0, .string d0, .string r0] 38)).alloc (.cells #[.string l1, .string d1, .string r1] 38)) W)
      (first | assumption | exact held_six hbM | exact held_six hbN.drew)
      (first
        | (go_at_call 29; go_fit (to_jid l0 d0 r0 _); rintro e w2 ⟨rfl, hb2⟩; have hbM := held_on (by assumption) hb2)
        | (go_at_call 29; go_fit (to_jid l1 d1 r1 _); rintro e w2 ⟨rfl, hb2⟩; have hbM := held_on (by assumption) hb2)
        | (go_at_call 25; go_fit (i2 _ (HM.out _ (And.right (by assumption)))); rintro e w2 ⟨rfl, hb2⟩; have hbM := held_on (by assumption) hb2))
  all_goals
    go_wp2
    go_ret
    exact ⟨rfl, below_one (below_one hbM)⟩

set_option maxRecDepth 100000 in
theorem lifted (os : Os) (started : os.Started) (H : Type) (enc : TypeId × Value → H) :
    ReturnsInHanded {} Try.checked os 10 .any (Rows.fnExactMatchesSpec.pre6 enc Try.prog Try.f10 Rows.fnExactMatchesRow.domain false) (Rows.fnExactMatchesSpec.post enc Try.prog Try.f10 false true false false) := by
  refine returnsInHanded_of_change_shaped (C := Try.checked) own started (by kernel_rfl) Try.func10
    (ChangeSpec.witness6 (enc := enc) (C := Try.checked) false ⟨#[], #[.agg #[.string ByteArray.empty, .string ByteArray.empty, .string ByteArray.empty], .agg #[.string ByteArray.empty, .string ByteArray.empty, .string ByteArray.empty]], []⟩ 8 (by kernel_rfl) (by kernel_rfl) (by kernel_rfl) (by kernel_rfl)) ?_
  intro W base args ds gs before hval0 hW hcnd _ hsh _
  have hval : ∀ (j : Nat) t v, Try.f10.params[j]? = some t → args[j]? = some v → Value.okWide Try.prog W .any base t v := hval0
  have hML : MaxL W := Try.laysM144.s1_3 W hsh
  have hW' := hW
  obtain ⟨p, q, hA0, hV, rfl, hfz, hnd⟩ := hW
  have hA : DataW.TrodAll enc Try.prog W 0 (fun _ => true) true Try.f10.params.toList args.toList ds p := hA0
  rw [Try.params10] at hA hval
  obtain ⟨v0, vs0, d0_, ds0, p0, q0, hargs, rfl, rfl, h0, s0⟩ := trodAll_cons hA
  obtain ⟨v1, vs1, d1_, ds1, p1, q1, rfl, rfl, rfl, h1, s1⟩ := trodAll_cons s0
  obtain ⟨rfl, rfl, rfl⟩ := trodAll_nil s1
  obtain rfl : args = #[v0, v1] := by cases args; simp_all
  obtain ⟨rfl, rfl⟩ := trodVars_none hV
  obtain ⟨c00, c01, c02, y00, y01, y02, m0, rfl, rfl, rfl, hy00, hy01, hy02⟩ := open_agg3 Try.underlying38 (by kernel_rfl) cellsJid (hval 0 38 v0 rfl rfl) h0
  obtain ⟨l0, e00, rfl, xl0⟩ := DataW.trod_string Try.underlying9 hy00
  obtain ⟨d0, e01, rfl, xd0⟩ := DataW.trod_string Try.underlying9 hy01
  obtain ⟨r0, e02, rfl, xr0⟩ := DataW.trod_string Try.underlying9 hy02
  simp at e00 e01 e02
  subst e00 e01 e02
  obtain ⟨c10, c11, c12, y10, y11, y12, m1, rfl, rfl, rfl, hy10, hy11, hy12⟩ := open_agg3 Try.underlying38 (by kernel_rfl) cellsJid (hval 1 38 v1 rfl rfl) h1
  obtain ⟨l1, e10, rfl, xl1⟩ := DataW.trod_string Try.underlying9 hy10
  obtain ⟨d1, e11, rfl, xd1⟩ := DataW.trod_string Try.underlying9 hy11
  obtain ⟨r1, e12, rfl, xr1⟩ := DataW.trod_string Try.underlying9 hy12
  simp at e10 e11 e12
  subst e10 e11 e12
  clear hA0 hval0
  simp only [List.append_nil, List.nil_append] at hW'
  refine (walk W l0 d0 r0 xl0 xd0 xr0 l1 d1 r1 xl1 xd1 xr1 hML).mono fun e W' ⟨he, hb⟩ => ?_
  subst he
  exact ⟨_, rfl, _, _, _, [], _, [], hW', trodAll_mk1 (shut_bool Try.underlying4 _), (trodAll_cons_mk (jidReads xl0 xd0 xr0) (trodAll_cons_mk (jidReads xl1 xd1 xr1) trodAll_mk0)), rfl, hb.frame _, fun h => by cases h⟩

theorem proved : Rows.FnExactMatchesSaid :=
  OpenClaim.holds_of_wide 10 Try.f10 rfl rfl rfl rfl rfl rfl rfl ⟨rfl, rfl, rfl, rfl, rfl⟩ rfl rfl rfl rfl rfl (by kernel_rfl) Try.func10 (by kernel_rfl)
    (of_decide_eq_true (by kernel_rfl)) (by unfold Func.isWrapper; first | (rw [if_pos (by decide +kernel)]; kernel_rfl) | (rw [if_neg (by decide +kernel)]; exact ⟨rfl, rfl⟩))
    (fun os started H enc _ => lifted os started H enc)
end Go.Proofs.Ytddefjnnehjjkaa.fnExactMatches
