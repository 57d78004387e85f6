/- laws.FnExactBare returns true at every input, and its arguments read afterwards as they read before. Conditions: none beyond the given statement's own. -/
import Derived.Test.YtddefjnnehjjkaaRows
import Derived.WalkKit
import Derived.ProofKit
import Derived.OpenShut
import Derived.ShutString
import Derived.ChangeOld
import Derived.Below
import Derived.HandedShaped
import Derived.Lib.SmallJoins
import Derived.Test.YtddefjnnehjjkaaJidBareLaw
namespace Go.Proofs.Ytddefjnnehjjkaa.fnExactBare
open Go.ChangeShapes Go.WideShapes Go.ChangeAt Go.RowKit Go.Joins
open Go.ChangeMaps (open_string shut_string)
set_option linter.unusedVariables false

theorem own : ownKnob Try.prog.godebug = none := by kernel_rfl
theorem cellsJid : Try.prog.cellsOf 38 = 3 := by kernel_rfl
theorem jidReads {H : Type} {enc : TypeId × Value → H} {W : World} {base : Nat} {sp : Nat → Bool} {held : Bool} {l d r : ByteArray} (hl : l.size ≤ maxLen) (hd : d.size ≤ maxLen) (hr : r.size ≤ maxLen) :
    DataW.Trod enc Try.prog W base sp held 38 (.agg #[.string l, .string d, .string r]) (.agg [.lit (.string l.data.toList), .lit (.string d.data.toList), .lit (.string r.data.toList)]) [] :=
  shut_agg3 (y0 := (.lit (.string l.data.toList), [])) (y1 := (.lit (.string d.data.toList), [])) (y2 := (.lit (.string r.data.toList), [])) Try.underlying38 (by kernel_rfl) cellsJid
    ⟨1, by simp [DataW.trod, Try.underlying9, hl]⟩ ⟨1, by simp [DataW.trod, Try.underlying9, hd]⟩ ⟨1, by simp [DataW.trod, Try.underlying9, hr]⟩

theorem walk (w : World) (l0 d0 r0 : ByteArray) (xl0 : l0.size ≤ maxLen) (xd0 : d0.size ≤ maxLen) (xr0 : r0.size ≤ maxLen) (hm : MaxL w) :
    Calls Try.prog 8 #[.agg #[.string l0, .string d0, .string r0]] w fun e w' => e = .returned (.bool true) ∧ Below w.heap.size w w' := by
  exact bare_law w l0 d0 r0 xl0 xd0 xr0 hm

set_option maxRecDepth 100000 in
theorem lifted (os : Os) (started : os.Started) (H : Type) (enc : TypeId × Value → H) :
    ReturnsInHanded {} Try.checked os 8 .any (Rows.fnExactBareSpec.pre6 enc Try.prog Try.f8 Rows.fnExactBareRow.domain false) (Rows.fnExactBareSpec.post enc Try.prog Try.f8 false true false false) := by
  refine returnsInHanded_of_change_shaped (C := Try.checked) own started (by kernel_rfl) Try.func8
    (ChangeSpec.witness6 (enc := enc) (C := Try.checked) false ⟨#[], #[.agg #[.string ByteArray.empty, .string ByteArray.empty, .string ByteArray.empty]], []⟩ 8 (by kernel_rfl) (by kernel_rfl) (by kernel_rfl) (by kernel_rfl)) ?_
  intro W base args ds gs before hval0 hW hcnd _ hsh _
  have hval : ∀ (j : Nat) t v, Try.f8.params[j]? = some t → args[j]? = some v → Value.okWide Try.prog W .any base t v := hval0
  have hML : MaxL W := Try.laysM144.s1_3 W hsh
  have hW' := hW
  obtain ⟨p, q, hA0, hV, rfl, hfz, hnd⟩ := hW
  have hA : DataW.TrodAll enc Try.prog W 0 (fun _ => true) true Try.f8.params.toList args.toList ds p := hA0
  rw [Try.params8] at hA hval
  obtain ⟨v0, vs0, d0_, ds0, p0, q0, hargs, rfl, rfl, h0, s0⟩ := trodAll_cons hA
  obtain ⟨rfl, rfl, rfl⟩ := trodAll_nil s0
  obtain rfl : args = #[v0] := by cases args; simp_all
  obtain ⟨rfl, rfl⟩ := trodVars_none hV
  obtain ⟨c00, c01, c02, y00, y01, y02, m0, rfl, rfl, rfl, hy00, hy01, hy02⟩ := open_agg3 Try.underlying38 (by kernel_rfl) cellsJid (hval 0 38 v0 rfl rfl) h0
  obtain ⟨l0, e00, rfl, xl0⟩ := DataW.trod_string Try.underlying9 hy00
  obtain ⟨d0, e01, rfl, xd0⟩ := DataW.trod_string Try.underlying9 hy01
  obtain ⟨r0, e02, rfl, xr0⟩ := DataW.trod_string Try.underlying9 hy02
  simp at e00 e01 e02
  subst e00 e01 e02
  clear hA0 hval0
  simp only [List.append_nil, List.nil_append] at hW'
  refine (walk W l0 d0 r0 xl0 xd0 xr0 hML).mono fun e W' ⟨he, hb⟩ => ?_
  subst he
  exact ⟨_, rfl, _, _, _, [], _, [], hW', trodAll_mk1 (shut_bool Try.underlying4 _), (trodAll_cons_mk (jidReads xl0 xd0 xr0) trodAll_mk0), rfl, hb.frame _, fun h => by cases h⟩

theorem proved : Rows.FnExactBareSaid :=
  OpenClaim.holds_of_wide 8 Try.f8 rfl rfl rfl rfl rfl rfl rfl ⟨rfl, rfl, rfl, rfl, rfl⟩ rfl rfl rfl rfl rfl (by kernel_rfl) Try.func8 (by kernel_rfl)
    (of_decide_eq_true (by kernel_rfl)) (by unfold Func.isWrapper; first | (rw [if_pos (by decide +kernel)]; kernel_rfl) | (rw [if_neg (by decide +kernel)]; exact ⟨rfl, rfl⟩))
    (fun os started H enc _ => lifted os started H enc)
end Go.Proofs.Ytddefjnnehjjkaa.fnExactBare
