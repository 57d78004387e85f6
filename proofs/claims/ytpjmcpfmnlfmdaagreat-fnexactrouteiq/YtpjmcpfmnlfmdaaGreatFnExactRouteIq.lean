/- laws.FnExactRouteIq returns true at every input, and its arguments read afterwards as they read before. Conditions: none beyond the given statement's own. -/
import Derived.Test.YtpjmcpfmnlfmdaaGreatRows
import Derived.WalkKit
import Derived.ProofKit
import Derived.OpenShut
import Derived.ShutString
import Derived.ChangeOld
import Derived.Below
import Derived.HandedShaped
import Derived.Lib.SmallJoins
import Derived.Test.YtpjmcpfmnlfmdaaGreatMbLIq
import Derived.Test.YtpjmcpfmnlfmdaaGreatStShut
namespace Go.Proofs.YtpjmcpfmnlfmdaaGreat.fnExactRouteIq
open Go.ChangeShapes Go.WideShapes Go.ChangeAt Go.RowKit Go.Joins
open Go.ChangeMaps (open_string shut_string)
set_option linter.unusedVariables false
set_option linter.unusedSimpArgs false

theorem own : ownKnob Tryz.prog.godebug = none := by kernel_rfl
theorem laidOut : laidOutB Tryz.prog = true := by kernel_rfl

theorem walk (w : World) (A0 : Option Addr) (len0 cap0 : Nat) (P0 : List SeL) (B0 : Option Addr) (lem0 cam0 : Nat) (Q0 : List MsL) (x0 : MbArg w A0 len0 P0 B0 lem0 Q0) (K1 T1 F1 O1 : ByteArray) (I1 : Int) (B1 : ByteArray) (x1 : K1.size ≤ maxLen ∧ T1.size ≤ maxLen ∧ F1.size ≤ maxLen ∧ O1.size ≤ maxLen ∧ (Lit.int .i64 I1).wf = true ∧ B1.size ≤ maxLen) (hm : MaxL w) :
    Calls Tryz.prog 4 #[.agg #[.slice A0 len0 cap0, .slice B0 lem0 cam0], .agg #[.string K1, .string T1, .string F1, .string O1, .int .i64 I1, .string B1]] w fun e w' => e = .returned (.bool true) ∧ Below w.heap.size w w' := by
  exact iq_law w A0 len0 cap0 P0 B0 lem0 cam0 Q0 x0 ⟨K1, T1, F1, O1, I1, B1⟩ x1 hm

set_option maxRecDepth 100000 in
theorem lifted (os : Os) (started : os.Started) (H : Type) (enc : TypeId × Value → H) :
    ReturnsInHanded {} Tryz.checked os 4 .any (Rows.fnExactRouteIqSpec.pre6 enc Tryz.prog Tryz.f4 Rows.fnExactRouteIqRow.domain false) (Rows.fnExactRouteIqSpec.post enc Tryz.prog Tryz.f4 false true false false) := by
  refine returnsInHanded_of_change_shaped (C := Tryz.checked) own started (by kernel_rfl) Tryz.func4
    (ChangeSpec.witness6 (enc := enc) (C := Tryz.checked) false ⟨#[], #[.agg #[.slice none 0 0, .slice none 0 0], .agg #[.string ByteArray.empty, .string ByteArray.empty, .string ByteArray.empty, .string ByteArray.empty, .int .i64 0, .string ByteArray.empty]], []⟩ 8 (by kernel_rfl) (by kernel_rfl) (by kernel_rfl) (by kernel_rfl)) ?_
  intro W base args ds gs before hval0 hW hcnd _ hsh _
  have hval : ∀ (j : Nat) t v, Tryz.f4.params[j]? = some t → args[j]? = some v → Value.okWide Tryz.prog W .any base t v := hval0
  have hML : MaxL W := Tryz.laysM144.s1_3 W hsh
  have hW' := hW
  obtain ⟨p, q, hA0, hV, rfl, hfz, hnd⟩ := hW
  have hA : DataW.TrodAll enc Tryz.prog W 0 (fun _ => true) true Tryz.f4.params.toList args.toList ds p := hA0
  rw [Tryz.params4] at hA hval
  obtain ⟨v0, vs0, d0_, ds0, p0, q0, hargs, rfl, rfl, h0, s0⟩ := trodAll_cons hA
  obtain ⟨v1, vs1, d1_, ds1, p1, q1, rfl, rfl, rfl, h1, s1⟩ := trodAll_cons s0
  obtain ⟨rfl, rfl, rfl⟩ := trodAll_nil s1
  obtain rfl : args = #[v0, v1] := by cases args; simp_all
  obtain ⟨rfl, rfl⟩ := trodVars_none hV
  have k0 := h0
  have lt0 : ∀ x ∈ p0, x.block < W.heap.size := by obtain ⟨m, hm⟩ := k0; exact DataW.trod_lt m _ _ _ hm
  obtain ⟨A0, len0, cap0, P0, B0, lem0, cam0, Q0, rfl, x0⟩ := mb_open (hval 0 25 v0 rfl rfl) h0
  obtain ⟨K1, T1, F1, O1, I1, B1, rfl, rfl, rfl, x1⟩ := stanza_open (hval 1 27 v1 rfl rfl) h1
  clear hA0 hval0
  refine (walk W A0 len0 cap0 P0 B0 lem0 cam0 Q0 x0 K1 T1 F1 O1 I1 B1 x1 hML).mono fun e W' ⟨he, hb⟩ => ?_
  subst he
  exact ⟨_, rfl, _, _, _, [], _, [], hW', trodAll_mk1 (shut_bool Tryz.underlying4 _), (trodAll_cons_mk (Below.trod laidOut (by kernel_rfl) (of_decide_eq_true (by kernel_rfl)) k0 hb lt0) (trodAll_cons_mk (stanza_shut x1) trodAll_mk0)), rfl, hb.frame _, fun h => by cases h⟩

theorem proved : Rows.FnExactRouteIqSaid :=
  OpenClaim.holds_of_wide 4 Tryz.f4 rfl rfl rfl rfl rfl rfl rfl ⟨rfl, rfl, rfl, rfl, rfl⟩ rfl rfl rfl rfl rfl (by kernel_rfl) Tryz.func4 (by kernel_rfl)
    (of_decide_eq_true (by kernel_rfl)) (by unfold Func.isWrapper; first | (rw [if_pos (by decide +kernel)]; kernel_rfl) | (rw [if_neg (by decide +kernel)]; exact ⟨rfl, rfl⟩))
    (fun os started H enc _ => lifted os started H enc)
end Go.Proofs.YtpjmcpfmnlfmdaaGreat.fnExactRouteIq
