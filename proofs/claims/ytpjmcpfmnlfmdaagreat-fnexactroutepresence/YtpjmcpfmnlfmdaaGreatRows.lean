/-
  No cell of these rows narrows 'for every input' (looked for: loops, veiled, ifaces, maps, wideKeys, modest, calm, conditions, laid).
  DERIVED. THE GIVEN ROWS OF THIS SEAT. 3 by the template 'for every input the law returns true; each argument reads behind the call as it read before'; 0 by the template 'total and deterministic' (their statements: YtpjmcpfmnlfmdaaGreatTotals.lean).
  GIVEN WITH THE SEED: the statements are not yours to turn. If you find one false, say at which input.
  Laid BY PROGRAM, IN A SANDBOX (cutbox-rows.mjs): the forced cells as the released guide's own fill.sh prints them over the translation 90992c8028b13a3d… (all of the seat's roots in one cut). By AI agents, Wed Nov 11 2026. No macro, syntax, notation, axiom, sorry.
-/
import Derived.Test.YtpjmcpfmnlfmdaaGreatChecked
import GoSem.Claim
import GoSem.ClaimJoined
import GoSem.ClaimMapViews
import Derived.JoinedTies
import Derived.KernelRfl
namespace Go.Proofs.YtpjmcpfmnlfmdaaGreat
/- THE CELL 'sum', in the pinned program and in every row, IS THE sha256 OF THE DUMP (.gsa) THAT YtpjmcpfmnlfmdaaGreatProg.lean LOADS. Nothing in Lean hashes anything: it is a label: what it is worth is what the hold of that sum in a sandbox is worth. -/
noncomputable def Tryz.pinned : Pinned := { name := "ytpjmcpfmnlfmdaagreat", sum := "90992c8028b13a3d321431d113a2c5a83230b3c05102e6e7386d0d7508510800", checked := Tryz.checked }
namespace Rows
def none {H : Type} : Left H := { results := [], args := [] }

/-- 'laws.FnExactRouteMessage': WHATEVER THE INPUT: true; the input reads as it did. -/
def fnExactRouteMessageSpec : ChangeSpec := { name := "fnExactRouteMessage", fn := fun _ => fun
  | [d1, d2] => { results := [.lit (.bool true)], args := [d1, d2] }
  | _ => none }
def fnExactRouteMessageRow : OpenClaim := { program := "ytpjmcpfmnlfmdaagreat", sum := "90992c8028b13a3d321431d113a2c5a83230b3c05102e6e7386d0d7508510800", func := "loop.example/g00387/laws.FnExactRouteMessage", spec := "fnExactRouteMessage", inPlace := ["internal/bytealg.IndexByteString", "internal/bytealg.IndexString"], unfollowed := true, recurses := true, named := ["internal/bytealg.MaxLen"], apart := false }
def FnExactRouteMessageSaid : Prop := fnExactRouteMessageRow.holds Tryz.pinned (OpenSpec.ofChange fnExactRouteMessageSpec)

/-- ITS FALSE NEIGHBOUR: 'it returns false'. Refute it at one input. -/
def fnExactRouteMessageWrong : ChangeSpec := { name := "fnExactRouteMessage", fn := fun _ => fun
  | [d1, d2] => { results := [.lit (.bool false)], args := [d1, d2] }
  | _ => none }
def FnExactRouteMessageWrongFalsely : Prop := fnExactRouteMessageRow.holds Tryz.pinned (OpenSpec.ofChange fnExactRouteMessageWrong)

/-- 'laws.FnExactRouteIq': WHATEVER THE INPUT: true; the input reads as it did. -/
def fnExactRouteIqSpec : ChangeSpec := { name := "fnExactRouteIq", fn := fun _ => fun
  | [d1, d2] => { results := [.lit (.bool true)], args := [d1, d2] }
  | _ => none }
def fnExactRouteIqRow : OpenClaim := { program := "ytpjmcpfmnlfmdaagreat", sum := "90992c8028b13a3d321431d113a2c5a83230b3c05102e6e7386d0d7508510800", func := "loop.example/g00387/laws.FnExactRouteIq", spec := "fnExactRouteIq", inPlace := ["internal/bytealg.IndexByteString", "internal/bytealg.IndexString"], unfollowed := true, recurses := true, named := ["internal/bytealg.MaxLen"], apart := false }
def FnExactRouteIqSaid : Prop := fnExactRouteIqRow.holds Tryz.pinned (OpenSpec.ofChange fnExactRouteIqSpec)

/-- ITS FALSE NEIGHBOUR: 'it returns false'. Refute it at one input. -/
def fnExactRouteIqWrong : ChangeSpec := { name := "fnExactRouteIq", fn := fun _ => fun
  | [d1, d2] => { results := [.lit (.bool false)], args := [d1, d2] }
  | _ => none }
def FnExactRouteIqWrongFalsely : Prop := fnExactRouteIqRow.holds Tryz.pinned (OpenSpec.ofChange fnExactRouteIqWrong)

/-- 'laws.FnExactRoutePresence': WHATEVER THE INPUT: true; the input reads as it did. -/
def fnExactRoutePresenceSpec : ChangeSpec := { name := "fnExactRoutePresence", fn := fun _ => fun
  | [d1, d2] => { results := [.lit (.bool true)], args := [d1, d2] }
  | _ => none }
def fnExactRoutePresenceRow : OpenClaim := { program := "ytpjmcpfmnlfmdaagreat", sum := "90992c8028b13a3d321431d113a2c5a83230b3c05102e6e7386d0d7508510800", func := "loop.example/g00387/laws.FnExactRoutePresence", spec := "fnExactRoutePresence", inPlace := ["internal/bytealg.IndexByteString", "internal/bytealg.IndexString"], unfollowed := true, recurses := true, named := ["internal/bytealg.MaxLen"], apart := false }
def FnExactRoutePresenceSaid : Prop := fnExactRoutePresenceRow.holds Tryz.pinned (OpenSpec.ofChange fnExactRoutePresenceSpec)

/-- ITS FALSE NEIGHBOUR: 'it returns false'. Refute it at one input. -/
def fnExactRoutePresenceWrong : ChangeSpec := { name := "fnExactRoutePresence", fn := fun _ => fun
  | [d1, d2] => { results := [.lit (.bool false)], args := [d1, d2] }
  | _ => none }
def FnExactRoutePresenceWrongFalsely : Prop := fnExactRoutePresenceRow.holds Tryz.pinned (OpenSpec.ofChange fnExactRoutePresenceWrong)

/- THE SECOND FORM. 'bulk': how many values and letters a reading holds, each counted each time it is reached (what is shared counts as often as it is met; a slice's spare places count too). A statement '..UptoSaid' is the law's where the arguments, and the package variables that the reading takes, are together of bulk at most 1048576: NARROWER than '..Said'. Prove '..Said' where nothing that the law and all that it calls make is longer than what came in: it says more and counts as full. Else prove '..UptoSaid'. A law counts once. -/
mutual
def uptoBulk {H : Type} : DataW H → Nat
  | .lit (.string bytes) => bytes.length + 1
  | .lit _ => 1
  | .nil => 1
  | .ptr d => uptoBulk d + 1
  | .slice elems spare => uptoBulkAll elems + uptoBulkAll spare + 1
  | .agg parts => uptoBulkAll parts + 1
  | .iface _ d => uptoBulk d + 1
  | .map entries => uptoBulkEntries entries + 1
  | .held _ => 1
def uptoBulkAll {H : Type} : List (DataW H) → Nat
  | [] => 0
  | d :: r => uptoBulk d + uptoBulkAll r
def uptoBulkEntries {H : Type} : List (Lit × DataW H) → Nat
  | [] => 0
  | x :: r => uptoBulkEntry x + uptoBulkEntries r
def uptoBulkEntry {H : Type} : Lit × DataW H → Nat
  | (.string bytes, d) => bytes.length + uptoBulk d + 1
  | (_, d) => uptoBulk d + 1
 end
def uptoSmall : (H : Type) → List (DataW H) → Bool := fun _ ds => decide (uptoBulkAll ds ≤ 1048576)
def OpenSpec.upto (s : _root_.Go.ChangeSpec) : _root_.Go.OpenSpec := { _root_.Go.OpenSpec.ofChange s with cond := some uptoSmall }

/-- 'laws.FnExactRouteMessage', WHERE WHAT IT READS IS OF BULK AT MOST 1048576: true; the input reads as it did. -/
def fnExactRouteMessageUptoRow : OpenClaim := { program := "ytpjmcpfmnlfmdaagreat", sum := "90992c8028b13a3d321431d113a2c5a83230b3c05102e6e7386d0d7508510800", func := "loop.example/g00387/laws.FnExactRouteMessage", spec := "fnExactRouteMessage", inPlace := ["internal/bytealg.IndexByteString", "internal/bytealg.IndexString"], unfollowed := true, recurses := true, named := ["internal/bytealg.MaxLen"], apart := false, narrowed := true }
def FnExactRouteMessageUptoSaid : Prop := fnExactRouteMessageUptoRow.holds Tryz.pinned (OpenSpec.upto fnExactRouteMessageSpec)

/-- 'laws.FnExactRouteIq', WHERE WHAT IT READS IS OF BULK AT MOST 1048576: true; the input reads as it did. -/
def fnExactRouteIqUptoRow : OpenClaim := { program := "ytpjmcpfmnlfmdaagreat", sum := "90992c8028b13a3d321431d113a2c5a83230b3c05102e6e7386d0d7508510800", func := "loop.example/g00387/laws.FnExactRouteIq", spec := "fnExactRouteIq", inPlace := ["internal/bytealg.IndexByteString", "internal/bytealg.IndexString"], unfollowed := true, recurses := true, named := ["internal/bytealg.MaxLen"], apart := false, narrowed := true }
def FnExactRouteIqUptoSaid : Prop := fnExactRouteIqUptoRow.holds Tryz.pinned (OpenSpec.upto fnExactRouteIqSpec)

/-- 'laws.FnExactRoutePresence', WHERE WHAT IT READS IS OF BULK AT MOST 1048576: true; the input reads as it did. -/
def fnExactRoutePresenceUptoRow : OpenClaim := { program := "ytpjmcpfmnlfmdaagreat", sum := "90992c8028b13a3d321431d113a2c5a83230b3c05102e6e7386d0d7508510800", func := "loop.example/g00387/laws.FnExactRoutePresence", spec := "fnExactRoutePresence", inPlace := ["internal/bytealg.IndexByteString", "internal/bytealg.IndexString"], unfollowed := true, recurses := true, named := ["internal/bytealg.MaxLen"], apart := false, narrowed := true }
def FnExactRoutePresenceUptoSaid : Prop := fnExactRoutePresenceUptoRow.holds Tryz.pinned (OpenSpec.upto fnExactRoutePresenceSpec)

end Rows
end Go.Proofs.YtpjmcpfmnlfmdaaGreat
