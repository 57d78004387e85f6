/-
  No cell of these rows narrows 'for every input' (looked for: loops, veiled, ifaces, maps, wideKeys, modest, calm, conditions, laid).
  DERIVED. THE GIVEN ROWS OF THIS SEAT. 8 by the template 'for every input the law returns true; each argument reads behind the call as it read before'; 0 by the template 'total and deterministic' (their statements: YtafdjjdmcnlddaaTotals.lean).
  GIVEN WITH THE SEED: the statements are not yours to turn. If you find one false, say at which input.
  Laid BY PROGRAM, IN A SANDBOX (cutbox-rows.mjs): the forced cells as the released guide's own fill.sh prints them over the translation 51b98213cf15e80d… (all of the seat's roots in one cut). By AI agents, Wed Nov 11 2026. No macro, syntax, notation, axiom, sorry.
-/
import Derived.Test.YtafdjjdmcnlddaaChecked
import GoSem.Claim
import GoSem.ClaimJoined
import GoSem.ClaimMapViews
import Derived.JoinedTies
import Derived.KernelRfl
namespace Go.Proofs.Ytafdjjdmcnlddaa
/- THE CELL 'sum', in the pinned program and in every row, IS THE sha256 OF THE DUMP (.gsa) THAT YtafdjjdmcnlddaaProg.lean LOADS. Nothing in Lean hashes anything: it is a label: what it is worth is what the hold of that sum in a sandbox is worth. -/
noncomputable def Try.pinned : Pinned := { name := "ytafdjjdmcnlddaa", sum := "51b98213cf15e80d9bb05fc828985b659db51109bb86382773557e47548a641d", checked := Try.checked }
namespace Rows
def none {H : Type} : Left H := { results := [], args := [] }

/-- 'laws.FnSessions': WHATEVER THE INPUT: true; the input reads as it did. -/
def fnSessionsSpec : ChangeSpec := { name := "fnSessions", fn := fun _ => fun
  | [d1, d2] => { results := [.lit (.bool true)], args := [d1, d2] }
  | _ => none }
def fnSessionsRow : OpenClaim := { program := "ytafdjjdmcnlddaa", sum := "51b98213cf15e80d9bb05fc828985b659db51109bb86382773557e47548a641d", func := "loop.example/g00387/laws.FnSessions", spec := "fnSessions", inPlace := ["internal/bytealg.IndexByteString", "slices.overlaps[loop.example/g00387/impl.Session]", "internal/abi.NoEscape", "internal/bytealg.MakeNoZero"], unfollowed := true, recurses := true, apart := false }
def FnSessionsSaid : Prop := fnSessionsRow.holds Try.pinned (OpenSpec.ofChange fnSessionsSpec)

/-- ITS FALSE NEIGHBOUR: 'it returns false'. Refute it at one input. -/
def fnSessionsWrong : ChangeSpec := { name := "fnSessions", fn := fun _ => fun
  | [d1, d2] => { results := [.lit (.bool false)], args := [d1, d2] }
  | _ => none }
def FnSessionsWrongFalsely : Prop := fnSessionsRow.holds Try.pinned (OpenSpec.ofChange fnSessionsWrong)

/-- 'laws.FnRoster': WHATEVER THE INPUT: true; the input reads as it did. -/
def fnRosterSpec : ChangeSpec := { name := "fnRoster", fn := fun _ => fun
  | [d1, d2] => { results := [.lit (.bool true)], args := [d1, d2] }
  | _ => none }
def fnRosterRow : OpenClaim := { program := "ytafdjjdmcnlddaa", sum := "51b98213cf15e80d9bb05fc828985b659db51109bb86382773557e47548a641d", func := "loop.example/g00387/laws.FnRoster", spec := "fnRoster", inPlace := ["internal/bytealg.IndexByteString", "internal/bytealg.IndexString"], unfollowed := true, recurses := true, named := ["internal/bytealg.MaxLen"], apart := false }
def FnRosterSaid : Prop := fnRosterRow.holds Try.pinned (OpenSpec.ofChange fnRosterSpec)

/-- ITS FALSE NEIGHBOUR: 'it returns false'. Refute it at one input. -/
def fnRosterWrong : ChangeSpec := { name := "fnRoster", fn := fun _ => fun
  | [d1, d2] => { results := [.lit (.bool false)], args := [d1, d2] }
  | _ => none }
def FnRosterWrongFalsely : Prop := fnRosterRow.holds Try.pinned (OpenSpec.ofChange fnRosterWrong)

/-- 'laws.FnExactRosterRight': WHATEVER THE INPUT: true; the input reads as it did. -/
def fnExactRosterRightSpec : ChangeSpec := { name := "fnExactRosterRight", fn := fun _ => fun
  | [d] => { results := [.lit (.bool true)], args := [d] }
  | _ => none }
def fnExactRosterRightRow : OpenClaim := { program := "ytafdjjdmcnlddaa", sum := "51b98213cf15e80d9bb05fc828985b659db51109bb86382773557e47548a641d", func := "loop.example/g00387/laws.FnExactRosterRight", spec := "fnExactRosterRight", inPlace := ["internal/bytealg.IndexByteString", "internal/bytealg.IndexString"], unfollowed := true, recurses := true, named := ["internal/bytealg.MaxLen"], apart := false }
def FnExactRosterRightSaid : Prop := fnExactRosterRightRow.holds Try.pinned (OpenSpec.ofChange fnExactRosterRightSpec)

/-- ITS FALSE NEIGHBOUR: 'it returns false'. Refute it at one input. -/
def fnExactRosterRightWrong : ChangeSpec := { name := "fnExactRosterRight", fn := fun _ => fun
  | [d] => { results := [.lit (.bool false)], args := [d] }
  | _ => none }
def FnExactRosterRightWrongFalsely : Prop := fnExactRosterRightRow.holds Try.pinned (OpenSpec.ofChange fnExactRosterRightWrong)

/-- 'laws.FnExactRosterSet': WHATEVER THE INPUT: true; the input reads as it did. -/
def fnExactRosterSetSpec : ChangeSpec := { name := "fnExactRosterSet", fn := fun _ => fun
  | [d1, d2, d3, d4] => { results := [.lit (.bool true)], args := [d1, d2, d3, d4] }
  | _ => none }
def fnExactRosterSetRow : OpenClaim := { program := "ytafdjjdmcnlddaa", sum := "51b98213cf15e80d9bb05fc828985b659db51109bb86382773557e47548a641d", func := "loop.example/g00387/laws.FnExactRosterSet", spec := "fnExactRosterSet", inPlace := ["internal/bytealg.IndexByteString", "internal/bytealg.IndexString"], unfollowed := true, recurses := true, named := ["internal/bytealg.MaxLen"], apart := false }
def FnExactRosterSetSaid : Prop := fnExactRosterSetRow.holds Try.pinned (OpenSpec.ofChange fnExactRosterSetSpec)

/-- ITS FALSE NEIGHBOUR: 'it returns false'. Refute it at one input. -/
def fnExactRosterSetWrong : ChangeSpec := { name := "fnExactRosterSet", fn := fun _ => fun
  | [d1, d2, d3, d4] => { results := [.lit (.bool false)], args := [d1, d2, d3, d4] }
  | _ => none }
def FnExactRosterSetWrongFalsely : Prop := fnExactRosterSetRow.holds Try.pinned (OpenSpec.ofChange fnExactRosterSetWrong)

/-- 'laws.FnExactRosterDrop': WHATEVER THE INPUT: true; the input reads as it did. -/
def fnExactRosterDropSpec : ChangeSpec := { name := "fnExactRosterDrop", fn := fun _ => fun
  | [d1, d2] => { results := [.lit (.bool true)], args := [d1, d2] }
  | _ => none }
def fnExactRosterDropRow : OpenClaim := { program := "ytafdjjdmcnlddaa", sum := "51b98213cf15e80d9bb05fc828985b659db51109bb86382773557e47548a641d", func := "loop.example/g00387/laws.FnExactRosterDrop", spec := "fnExactRosterDrop", inPlace := ["internal/bytealg.IndexByteString", "internal/bytealg.IndexString"], unfollowed := true, recurses := true, named := ["internal/bytealg.MaxLen"], apart := false }
def FnExactRosterDropSaid : Prop := fnExactRosterDropRow.holds Try.pinned (OpenSpec.ofChange fnExactRosterDropSpec)

/-- ITS FALSE NEIGHBOUR: 'it returns false'. Refute it at one input. -/
def fnExactRosterDropWrong : ChangeSpec := { name := "fnExactRosterDrop", fn := fun _ => fun
  | [d1, d2] => { results := [.lit (.bool false)], args := [d1, d2] }
  | _ => none }
def FnExactRosterDropWrongFalsely : Prop := fnExactRosterDropRow.holds Try.pinned (OpenSpec.ofChange fnExactRosterDropWrong)

/-- 'laws.FnExactRosterItem': WHATEVER THE INPUT: true; the input reads as it did. -/
def fnExactRosterItemSpec : ChangeSpec := { name := "fnExactRosterItem", fn := fun _ => fun
  | [d1, d2] => { results := [.lit (.bool true)], args := [d1, d2] }
  | _ => none }
def fnExactRosterItemRow : OpenClaim := { program := "ytafdjjdmcnlddaa", sum := "51b98213cf15e80d9bb05fc828985b659db51109bb86382773557e47548a641d", func := "loop.example/g00387/laws.FnExactRosterItem", spec := "fnExactRosterItem", inPlace := ["internal/bytealg.IndexByteString", "internal/bytealg.IndexString"], unfollowed := true, recurses := true, named := ["internal/bytealg.MaxLen"], apart := false }
def FnExactRosterItemSaid : Prop := fnExactRosterItemRow.holds Try.pinned (OpenSpec.ofChange fnExactRosterItemSpec)

/-- ITS FALSE NEIGHBOUR: 'it returns false'. Refute it at one input. -/
def fnExactRosterItemWrong : ChangeSpec := { name := "fnExactRosterItem", fn := fun _ => fun
  | [d1, d2] => { results := [.lit (.bool false)], args := [d1, d2] }
  | _ => none }
def FnExactRosterItemWrongFalsely : Prop := fnExactRosterItemRow.holds Try.pinned (OpenSpec.ofChange fnExactRosterItemWrong)

/-- 'laws.FnExactRosterGroup': WHATEVER THE INPUT: true; the input reads as it did. -/
def fnExactRosterGroupSpec : ChangeSpec := { name := "fnExactRosterGroup", fn := fun _ => fun
  | [d1, d2] => { results := [.lit (.bool true)], args := [d1, d2] }
  | _ => none }
def fnExactRosterGroupRow : OpenClaim := { program := "ytafdjjdmcnlddaa", sum := "51b98213cf15e80d9bb05fc828985b659db51109bb86382773557e47548a641d", func := "loop.example/g00387/laws.FnExactRosterGroup", spec := "fnExactRosterGroup", inPlace := ["internal/bytealg.IndexByteString", "internal/bytealg.IndexString"], unfollowed := true, recurses := true, named := ["internal/bytealg.MaxLen"], apart := false }
def FnExactRosterGroupSaid : Prop := fnExactRosterGroupRow.holds Try.pinned (OpenSpec.ofChange fnExactRosterGroupSpec)

/-- ITS FALSE NEIGHBOUR: 'it returns false'. Refute it at one input. -/
def fnExactRosterGroupWrong : ChangeSpec := { name := "fnExactRosterGroup", fn := fun _ => fun
  | [d1, d2] => { results := [.lit (.bool false)], args := [d1, d2] }
  | _ => none }
def FnExactRosterGroupWrongFalsely : Prop := fnExactRosterGroupRow.holds Try.pinned (OpenSpec.ofChange fnExactRosterGroupWrong)

/-- 'laws.FnExactRosterSince': WHATEVER THE INPUT: true; the input reads as it did. -/
def fnExactRosterSinceSpec : ChangeSpec := { name := "fnExactRosterSince", fn := fun _ => fun
  | [d1, d2] => { results := [.lit (.bool true)], args := [d1, d2] }
  | _ => none }
def fnExactRosterSinceRow : OpenClaim := { program := "ytafdjjdmcnlddaa", sum := "51b98213cf15e80d9bb05fc828985b659db51109bb86382773557e47548a641d", func := "loop.example/g00387/laws.FnExactRosterSince", spec := "fnExactRosterSince", inPlace := ["internal/bytealg.IndexByteString", "internal/bytealg.IndexString"], unfollowed := true, recurses := true, named := ["internal/bytealg.MaxLen"], apart := false }
def FnExactRosterSinceSaid : Prop := fnExactRosterSinceRow.holds Try.pinned (OpenSpec.ofChange fnExactRosterSinceSpec)

/-- ITS FALSE NEIGHBOUR: 'it returns false'. Refute it at one input. -/
def fnExactRosterSinceWrong : ChangeSpec := { name := "fnExactRosterSince", fn := fun _ => fun
  | [d1, d2] => { results := [.lit (.bool false)], args := [d1, d2] }
  | _ => none }
def FnExactRosterSinceWrongFalsely : Prop := fnExactRosterSinceRow.holds Try.pinned (OpenSpec.ofChange fnExactRosterSinceWrong)

/- THE SECOND FORM. 'bulk': how many values and letters a reading holds, each counted each time it is reached (what is shared counts as often as it is met; a slice's spare places count too). A statement '..UptoSaid' is the law's where the arguments, and the package variables that the reading takes, are together of bulk at most 1048576: NARROWER than '..Said'. Prove '..Said' where nothing that the law and all that it calls make is longer than what came in: it says more and counts as full. Else prove '..UptoSaid'. A law counts once. -/
mutual
def uptoBulk {H : Type} : DataW H → Nat
  | .lit (.string bytes) => bytes.length + 1
  | .lit _ => 1
  | .nil => 1
  | .ptr d => uptoBulk d + 1
  | .slice elems spare => uptoBulkAll elems + uptoBulkAll spare + 1
  | .agg parts => uptoBulkAll parts + 1
  | .iface _ d => uptoBulk d + 1
  | .map entries => uptoBulkEntries entries + 1
  | .held _ => 1
def uptoBulkAll {H : Type} : List (DataW H) → Nat
  | [] => 0
  | d :: r => uptoBulk d + uptoBulkAll r
def uptoBulkEntries {H : Type} : List (Lit × DataW H) → Nat
  | [] => 0
  | x :: r => uptoBulkEntry x + uptoBulkEntries r
def uptoBulkEntry {H : Type} : Lit × DataW H → Nat
  | (.string bytes, d) => bytes.length + uptoBulk d + 1
  | (_, d) => uptoBulk d + 1
 end
def uptoSmall : (H : Type) → List (DataW H) → Bool := fun _ ds => decide (uptoBulkAll ds ≤ 1048576)
def OpenSpec.upto (s : _root_.Go.ChangeSpec) : _root_.Go.OpenSpec := { _root_.Go.OpenSpec.ofChange s with cond := some uptoSmall }

/-- 'laws.FnSessions', WHERE WHAT IT READS IS OF BULK AT MOST 1048576: true; the input reads as it did. -/
def fnSessionsUptoRow : OpenClaim := { program := "ytafdjjdmcnlddaa", sum := "51b98213cf15e80d9bb05fc828985b659db51109bb86382773557e47548a641d", func := "loop.example/g00387/laws.FnSessions", spec := "fnSessions", inPlace := ["internal/bytealg.IndexByteString", "slices.overlaps[loop.example/g00387/impl.Session]", "internal/abi.NoEscape", "internal/bytealg.MakeNoZero"], unfollowed := true, recurses := true, apart := false, narrowed := true }
def FnSessionsUptoSaid : Prop := fnSessionsUptoRow.holds Try.pinned (OpenSpec.upto fnSessionsSpec)

/-- 'laws.FnRoster', WHERE WHAT IT READS IS OF BULK AT MOST 1048576: true; the input reads as it did. -/
def fnRosterUptoRow : OpenClaim := { program := "ytafdjjdmcnlddaa", sum := "51b98213cf15e80d9bb05fc828985b659db51109bb86382773557e47548a641d", func := "loop.example/g00387/laws.FnRoster", spec := "fnRoster", inPlace := ["internal/bytealg.IndexByteString", "internal/bytealg.IndexString"], unfollowed := true, recurses := true, named := ["internal/bytealg.MaxLen"], apart := false, narrowed := true }
def FnRosterUptoSaid : Prop := fnRosterUptoRow.holds Try.pinned (OpenSpec.upto fnRosterSpec)

/-- 'laws.FnExactRosterRight', WHERE WHAT IT READS IS OF BULK AT MOST 1048576: true; the input reads as it did. -/
def fnExactRosterRightUptoRow : OpenClaim := { program := "ytafdjjdmcnlddaa", sum := "51b98213cf15e80d9bb05fc828985b659db51109bb86382773557e47548a641d", func := "loop.example/g00387/laws.FnExactRosterRight", spec := "fnExactRosterRight", inPlace := ["internal/bytealg.IndexByteString", "internal/bytealg.IndexString"], unfollowed := true, recurses := true, named := ["internal/bytealg.MaxLen"], apart := false, narrowed := true }
def FnExactRosterRightUptoSaid : Prop := fnExactRosterRightUptoRow.holds Try.pinned (OpenSpec.upto fnExactRosterRightSpec)

/-- 'laws.FnExactRosterSet', WHERE WHAT IT READS IS OF BULK AT MOST 1048576: true; the input reads as it did. -/
def fnExactRosterSetUptoRow : OpenClaim := { program := "ytafdjjdmcnlddaa", sum := "51b98213cf15e80d9bb05fc828985b659db51109bb86382773557e47548a641d", func := "loop.example/g00387/laws.FnExactRosterSet", spec := "fnExactRosterSet", inPlace := ["internal/bytealg.IndexByteString", "internal/bytealg.IndexString"], unfollowed := true, recurses := true, named := ["internal/bytealg.MaxLen"], apart := false, narrowed := true }
def FnExactRosterSetUptoSaid : Prop := fnExactRosterSetUptoRow.holds Try.pinned (OpenSpec.upto fnExactRosterSetSpec)

/-- 'laws.FnExactRosterDrop', WHERE WHAT IT READS IS OF BULK AT MOST 1048576: true; the input reads as it did. -/
def fnExactRosterDropUptoRow : OpenClaim := { program := "ytafdjjdmcnlddaa", sum := "51b98213cf15e80d9bb05fc828985b659db51109bb86382773557e47548a641d", func := "loop.example/g00387/laws.FnExactRosterDrop", spec := "fnExactRosterDrop", inPlace := ["internal/bytealg.IndexByteString", "internal/bytealg.IndexString"], unfollowed := true, recurses := true, named := ["internal/bytealg.MaxLen"], apart := false, narrowed := true }
def FnExactRosterDropUptoSaid : Prop := fnExactRosterDropUptoRow.holds Try.pinned (OpenSpec.upto fnExactRosterDropSpec)

/-- 'laws.FnExactRosterItem', WHERE WHAT IT READS IS OF BULK AT MOST 1048576: true; the input reads as it did. -/
def fnExactRosterItemUptoRow : OpenClaim := { program := "ytafdjjdmcnlddaa", sum := "51b98213cf15e80d9bb05fc828985b659db51109bb86382773557e47548a641d", func := "loop.example/g00387/laws.FnExactRosterItem", spec := "fnExactRosterItem", inPlace := ["internal/bytealg.IndexByteString", "internal/bytealg.IndexString"], unfollowed := true, recurses := true, named := ["internal/bytealg.MaxLen"], apart := false, narrowed := true }
def FnExactRosterItemUptoSaid : Prop := fnExactRosterItemUptoRow.holds Try.pinned (OpenSpec.upto fnExactRosterItemSpec)

/-- 'laws.FnExactRosterGroup', WHERE WHAT IT READS IS OF BULK AT MOST 1048576: true; the input reads as it did. -/
def fnExactRosterGroupUptoRow : OpenClaim := { program := "ytafdjjdmcnlddaa", sum := "51b98213cf15e80d9bb05fc828985b659db51109bb86382773557e47548a641d", func := "loop.example/g00387/laws.FnExactRosterGroup", spec := "fnExactRosterGroup", inPlace := ["internal/bytealg.IndexByteString", "internal/bytealg.IndexString"], unfollowed := true, recurses := true, named := ["internal/bytealg.MaxLen"], apart := false, narrowed := true }
def FnExactRosterGroupUptoSaid : Prop := fnExactRosterGroupUptoRow.holds Try.pinned (OpenSpec.upto fnExactRosterGroupSpec)

/-- 'laws.FnExactRosterSince', WHERE WHAT IT READS IS OF BULK AT MOST 1048576: true; the input reads as it did. -/
def fnExactRosterSinceUptoRow : OpenClaim := { program := "ytafdjjdmcnlddaa", sum := "51b98213cf15e80d9bb05fc828985b659db51109bb86382773557e47548a641d", func := "loop.example/g00387/laws.FnExactRosterSince", spec := "fnExactRosterSince", inPlace := ["internal/bytealg.IndexByteString", "internal/bytealg.IndexString"], unfollowed := true, recurses := true, named := ["internal/bytealg.MaxLen"], apart := false, narrowed := true }
def FnExactRosterSinceUptoSaid : Prop := fnExactRosterSinceUptoRow.holds Try.pinned (OpenSpec.upto fnExactRosterSinceSpec)

end Rows
end Go.Proofs.Ytafdjjdmcnlddaa
