/-
  No cell of these rows narrows 'for every input' (looked for: loops, veiled, ifaces, maps, wideKeys, modest, calm, conditions, laid).
  DERIVED. THE GIVEN ROWS OF THIS SEAT. 5 by the template 'for every input the law returns true; each argument reads behind the call as it read before'; 0 by the template 'total and deterministic' (their statements: YtkdljhmenejckaaTotals.lean).
  GIVEN WITH THE SEED: the statements are not yours to turn. If you find one false, say at which input.
  Laid BY PROGRAM, IN A SANDBOX (cutbox-rows.mjs): the forced cells as the released guide's own fill.sh prints them over the translation c1e38a1953f36a29… (all of the seat's roots in one cut). By AI agents, Wed Nov 11 2026. No macro, syntax, notation, axiom, sorry.
-/
import Derived.Test.YtkdljhmenejckaaChecked
import GoSem.Claim
import GoSem.ClaimJoined
import GoSem.ClaimMapViews
import Derived.JoinedTies
import Derived.KernelRfl
namespace Go.Proofs.Ytkdljhmenejckaa
/- THE CELL 'sum', in the pinned program and in every row, IS THE sha256 OF THE DUMP (.gsa) THAT YtkdljhmenejckaaProg.lean LOADS. Nothing in Lean hashes anything: it is a label: what it is worth is what the hold of that sum in a sandbox is worth. -/
noncomputable def Try.pinned : Pinned := { name := "ytkdljhmenejckaa", sum := "c1e38a1953f36a29ac8305bb39153357f7b0f1871517ce8c596ae30ff11f3dcf", checked := Try.checked }
namespace Rows
def none {H : Type} : Left H := { results := [], args := [] }

/-- 'laws.FnSessions': WHATEVER THE INPUT: true; the input reads as it did. -/
def fnSessionsSpec : ChangeSpec := { name := "fnSessions", fn := fun _ => fun
  | [d1, d2] => { results := [.lit (.bool true)], args := [d1, d2] }
  | _ => none }
def fnSessionsRow : OpenClaim := { program := "ytkdljhmenejckaa", sum := "c1e38a1953f36a29ac8305bb39153357f7b0f1871517ce8c596ae30ff11f3dcf", func := "loop.example/g00387/laws.FnSessions", spec := "fnSessions", inPlace := ["internal/bytealg.IndexByteString", "slices.overlaps[loop.example/g00387/impl.Session]", "internal/abi.NoEscape", "internal/bytealg.MakeNoZero"], unfollowed := true, recurses := true, apart := false }
def FnSessionsSaid : Prop := fnSessionsRow.holds Try.pinned (OpenSpec.ofChange fnSessionsSpec)

/-- ITS FALSE NEIGHBOUR: 'it returns false'. Refute it at one input. -/
def fnSessionsWrong : ChangeSpec := { name := "fnSessions", fn := fun _ => fun
  | [d1, d2] => { results := [.lit (.bool false)], args := [d1, d2] }
  | _ => none }
def FnSessionsWrongFalsely : Prop := fnSessionsRow.holds Try.pinned (OpenSpec.ofChange fnSessionsWrong)

/-- 'laws.FnBest': WHATEVER THE INPUT: true; the input reads as it did. -/
def fnBestSpec : ChangeSpec := { name := "fnBest", fn := fun _ => fun
  | [d] => { results := [.lit (.bool true)], args := [d] }
  | _ => none }
def fnBestRow : OpenClaim := { program := "ytkdljhmenejckaa", sum := "c1e38a1953f36a29ac8305bb39153357f7b0f1871517ce8c596ae30ff11f3dcf", func := "loop.example/g00387/laws.FnBest", spec := "fnBest", inPlace := ["internal/bytealg.IndexByteString"], unfollowed := true, recurses := true, apart := false }
def FnBestSaid : Prop := fnBestRow.holds Try.pinned (OpenSpec.ofChange fnBestSpec)

/-- ITS FALSE NEIGHBOUR: 'it returns false'. Refute it at one input. -/
def fnBestWrong : ChangeSpec := { name := "fnBest", fn := fun _ => fun
  | [d] => { results := [.lit (.bool false)], args := [d] }
  | _ => none }
def FnBestWrongFalsely : Prop := fnBestRow.holds Try.pinned (OpenSpec.ofChange fnBestWrong)

/-- 'laws.FnExactBest': WHATEVER THE INPUT: true; the input reads as it did. -/
def fnExactBestSpec : ChangeSpec := { name := "fnExactBest", fn := fun _ => fun
  | [d] => { results := [.lit (.bool true)], args := [d] }
  | _ => none }
def fnExactBestRow : OpenClaim := { program := "ytkdljhmenejckaa", sum := "c1e38a1953f36a29ac8305bb39153357f7b0f1871517ce8c596ae30ff11f3dcf", func := "loop.example/g00387/laws.FnExactBest", spec := "fnExactBest", inPlace := ["internal/bytealg.IndexByteString"], unfollowed := true, recurses := true, apart := false }
def FnExactBestSaid : Prop := fnExactBestRow.holds Try.pinned (OpenSpec.ofChange fnExactBestSpec)

/-- ITS FALSE NEIGHBOUR: 'it returns false'. Refute it at one input. -/
def fnExactBestWrong : ChangeSpec := { name := "fnExactBest", fn := fun _ => fun
  | [d] => { results := [.lit (.bool false)], args := [d] }
  | _ => none }
def FnExactBestWrongFalsely : Prop := fnExactBestRow.holds Try.pinned (OpenSpec.ofChange fnExactBestWrong)

/-- 'laws.FnExactMailboxRight': WHATEVER THE INPUT: true; the input reads as it did. -/
def fnExactMailboxRightSpec : ChangeSpec := { name := "fnExactMailboxRight", fn := fun _ => fun
  | [d] => { results := [.lit (.bool true)], args := [d] }
  | _ => none }
def fnExactMailboxRightRow : OpenClaim := { program := "ytkdljhmenejckaa", sum := "c1e38a1953f36a29ac8305bb39153357f7b0f1871517ce8c596ae30ff11f3dcf", func := "loop.example/g00387/laws.FnExactMailboxRight", spec := "fnExactMailboxRight", inPlace := ["internal/bytealg.IndexByteString", "internal/bytealg.IndexString"], unfollowed := true, recurses := true, named := ["internal/bytealg.MaxLen"], apart := false }
def FnExactMailboxRightSaid : Prop := fnExactMailboxRightRow.holds Try.pinned (OpenSpec.ofChange fnExactMailboxRightSpec)

/-- ITS FALSE NEIGHBOUR: 'it returns false'. Refute it at one input. -/
def fnExactMailboxRightWrong : ChangeSpec := { name := "fnExactMailboxRight", fn := fun _ => fun
  | [d] => { results := [.lit (.bool false)], args := [d] }
  | _ => none }
def FnExactMailboxRightWrongFalsely : Prop := fnExactMailboxRightRow.holds Try.pinned (OpenSpec.ofChange fnExactMailboxRightWrong)

/-- 'laws.FnExactTakeKept': WHATEVER THE INPUT: true; the input reads as it did. -/
def fnExactTakeKeptSpec : ChangeSpec := { name := "fnExactTakeKept", fn := fun _ => fun
  | [d1, d2] => { results := [.lit (.bool true)], args := [d1, d2] }
  | _ => none }
def fnExactTakeKeptRow : OpenClaim := { program := "ytkdljhmenejckaa", sum := "c1e38a1953f36a29ac8305bb39153357f7b0f1871517ce8c596ae30ff11f3dcf", func := "loop.example/g00387/laws.FnExactTakeKept", spec := "fnExactTakeKept", inPlace := ["internal/bytealg.IndexByteString", "internal/bytealg.IndexString"], unfollowed := true, recurses := true, named := ["internal/bytealg.MaxLen"], apart := false }
def FnExactTakeKeptSaid : Prop := fnExactTakeKeptRow.holds Try.pinned (OpenSpec.ofChange fnExactTakeKeptSpec)

/-- ITS FALSE NEIGHBOUR: 'it returns false'. Refute it at one input. -/
def fnExactTakeKeptWrong : ChangeSpec := { name := "fnExactTakeKept", fn := fun _ => fun
  | [d1, d2] => { results := [.lit (.bool false)], args := [d1, d2] }
  | _ => none }
def FnExactTakeKeptWrongFalsely : Prop := fnExactTakeKeptRow.holds Try.pinned (OpenSpec.ofChange fnExactTakeKeptWrong)

/- THE SECOND FORM. 'bulk': how many values and letters a reading holds, each counted each time it is reached (what is shared counts as often as it is met; a slice's spare places count too). A statement '..UptoSaid' is the law's where the arguments, and the package variables that the reading takes, are together of bulk at most 1048576: NARROWER than '..Said'. Prove '..Said' where nothing that the law and all that it calls make is longer than what came in: it says more and counts as full. Else prove '..UptoSaid'. A law counts once. -/
mutual
def uptoBulk {H : Type} : DataW H → Nat
  | .lit (.string bytes) => bytes.length + 1
  | .lit _ => 1
  | .nil => 1
  | .ptr d => uptoBulk d + 1
  | .slice elems spare => uptoBulkAll elems + uptoBulkAll spare + 1
  | .agg parts => uptoBulkAll parts + 1
  | .iface _ d => uptoBulk d + 1
  | .map entries => uptoBulkEntries entries + 1
  | .held _ => 1
def uptoBulkAll {H : Type} : List (DataW H) → Nat
  | [] => 0
  | d :: r => uptoBulk d + uptoBulkAll r
def uptoBulkEntries {H : Type} : List (Lit × DataW H) → Nat
  | [] => 0
  | x :: r => uptoBulkEntry x + uptoBulkEntries r
def uptoBulkEntry {H : Type} : Lit × DataW H → Nat
  | (.string bytes, d) => bytes.length + uptoBulk d + 1
  | (_, d) => uptoBulk d + 1
 end
def uptoSmall : (H : Type) → List (DataW H) → Bool := fun _ ds => decide (uptoBulkAll ds ≤ 1048576)
def OpenSpec.upto (s : _root_.Go.ChangeSpec) : _root_.Go.OpenSpec := { _root_.Go.OpenSpec.ofChange s with cond := some uptoSmall }

/-- 'laws.FnSessions', WHERE WHAT IT READS IS OF BULK AT MOST 1048576: true; the input reads as it did. -/
def fnSessionsUptoRow : OpenClaim := { program := "ytkdljhmenejckaa", sum := "c1e38a1953f36a29ac8305bb39153357f7b0f1871517ce8c596ae30ff11f3dcf", func := "loop.example/g00387/laws.FnSessions", spec := "fnSessions", inPlace := ["internal/bytealg.IndexByteString", "slices.overlaps[loop.example/g00387/impl.Session]", "internal/abi.NoEscape", "internal/bytealg.MakeNoZero"], unfollowed := true, recurses := true, apart := false, narrowed := true }
def FnSessionsUptoSaid : Prop := fnSessionsUptoRow.holds Try.pinned (OpenSpec.upto fnSessionsSpec)

/-- 'laws.FnBest', WHERE WHAT IT READS IS OF BULK AT MOST 1048576: true; the input reads as it did. -/
def fnBestUptoRow : OpenClaim := { program := "ytkdljhmenejckaa", sum := "c1e38a1953f36a29ac8305bb39153357f7b0f1871517ce8c596ae30ff11f3dcf", func := "loop.example/g00387/laws.FnBest", spec := "fnBest", inPlace := ["internal/bytealg.IndexByteString"], unfollowed := true, recurses := true, apart := false, narrowed := true }
def FnBestUptoSaid : Prop := fnBestUptoRow.holds Try.pinned (OpenSpec.upto fnBestSpec)

/-- 'laws.FnExactBest', WHERE WHAT IT READS IS OF BULK AT MOST 1048576: true; the input reads as it did. -/
def fnExactBestUptoRow : OpenClaim := { program := "ytkdljhmenejckaa", sum := "c1e38a1953f36a29ac8305bb39153357f7b0f1871517ce8c596ae30ff11f3dcf", func := "loop.example/g00387/laws.FnExactBest", spec := "fnExactBest", inPlace := ["internal/bytealg.IndexByteString"], unfollowed := true, recurses := true, apart := false, narrowed := true }
def FnExactBestUptoSaid : Prop := fnExactBestUptoRow.holds Try.pinned (OpenSpec.upto fnExactBestSpec)

/-- 'laws.FnExactMailboxRight', WHERE WHAT IT READS IS OF BULK AT MOST 1048576: true; the input reads as it did. -/
def fnExactMailboxRightUptoRow : OpenClaim := { program := "ytkdljhmenejckaa", sum := "c1e38a1953f36a29ac8305bb39153357f7b0f1871517ce8c596ae30ff11f3dcf", func := "loop.example/g00387/laws.FnExactMailboxRight", spec := "fnExactMailboxRight", inPlace := ["internal/bytealg.IndexByteString", "internal/bytealg.IndexString"], unfollowed := true, recurses := true, named := ["internal/bytealg.MaxLen"], apart := false, narrowed := true }
def FnExactMailboxRightUptoSaid : Prop := fnExactMailboxRightUptoRow.holds Try.pinned (OpenSpec.upto fnExactMailboxRightSpec)

/-- 'laws.FnExactTakeKept', WHERE WHAT IT READS IS OF BULK AT MOST 1048576: true; the input reads as it did. -/
def fnExactTakeKeptUptoRow : OpenClaim := { program := "ytkdljhmenejckaa", sum := "c1e38a1953f36a29ac8305bb39153357f7b0f1871517ce8c596ae30ff11f3dcf", func := "loop.example/g00387/laws.FnExactTakeKept", spec := "fnExactTakeKept", inPlace := ["internal/bytealg.IndexByteString", "internal/bytealg.IndexString"], unfollowed := true, recurses := true, named := ["internal/bytealg.MaxLen"], apart := false, narrowed := true }
def FnExactTakeKeptUptoSaid : Prop := fnExactTakeKeptUptoRow.holds Try.pinned (OpenSpec.upto fnExactTakeKeptSpec)

end Rows
end Go.Proofs.Ytkdljhmenejckaa
