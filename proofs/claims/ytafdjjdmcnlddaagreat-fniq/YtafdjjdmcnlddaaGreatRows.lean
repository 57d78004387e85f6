/-
  No cell of these rows narrows 'for every input' (looked for: loops, veiled, ifaces, maps, wideKeys, modest, calm, conditions, laid).
  DERIVED. THE GIVEN ROWS OF THIS SEAT. 4 by the template 'for every input the law returns true; each argument reads behind the call as it read before'; 0 by the template 'total and deterministic' (their statements: YtafdjjdmcnlddaaGreatTotals.lean).
  GIVEN WITH THE SEED: the statements are not yours to turn. If you find one false, say at which input.
  Laid BY PROGRAM, IN A SANDBOX (cutbox-rows.mjs): the forced cells as the released guide's own fill.sh prints them over the translation 3cf11ba925fdf1a1… (all of the seat's roots in one cut). By AI agents, Wed Nov 11 2026. No macro, syntax, notation, axiom, sorry.
-/
import Derived.Test.YtafdjjdmcnlddaaGreatChecked
import GoSem.Claim
import GoSem.ClaimJoined
import GoSem.ClaimMapViews
import Derived.JoinedTies
import Derived.KernelRfl
namespace Go.Proofs.YtafdjjdmcnlddaaGreat
/- THE CELL 'sum', in the pinned program and in every row, IS THE sha256 OF THE DUMP (.gsa) THAT YtafdjjdmcnlddaaGreatProg.lean LOADS. Nothing in Lean hashes anything: it is a label: what it is worth is what the hold of that sum in a sandbox is worth. -/
noncomputable def Tryz.pinned : Pinned := { name := "ytafdjjdmcnlddaagreat", sum := "3cf11ba925fdf1a10d78f791cced9acf6f9290a720ccf2b4d9c8321b2ba592a0", checked := Tryz.checked }
namespace Rows
def none {H : Type} : Left H := { results := [], args := [] }

/-- 'laws.FnMessage': WHATEVER THE INPUT: true; the input reads as it did. -/
def fnMessageSpec : ChangeSpec := { name := "fnMessage", fn := fun _ => fun
  | [d1, d2] => { results := [.lit (.bool true)], args := [d1, d2] }
  | _ => none }
def fnMessageRow : OpenClaim := { program := "ytafdjjdmcnlddaagreat", sum := "3cf11ba925fdf1a10d78f791cced9acf6f9290a720ccf2b4d9c8321b2ba592a0", func := "loop.example/g00387/laws.FnMessage", spec := "fnMessage", inPlace := ["internal/bytealg.IndexByteString", "internal/bytealg.IndexString"], unfollowed := true, recurses := true, named := ["internal/bytealg.MaxLen"], apart := false }
def FnMessageSaid : Prop := fnMessageRow.holds Tryz.pinned (OpenSpec.ofChange fnMessageSpec)

/-- ITS FALSE NEIGHBOUR: 'it returns false'. Refute it at one input. -/
def fnMessageWrong : ChangeSpec := { name := "fnMessage", fn := fun _ => fun
  | [d1, d2] => { results := [.lit (.bool false)], args := [d1, d2] }
  | _ => none }
def FnMessageWrongFalsely : Prop := fnMessageRow.holds Tryz.pinned (OpenSpec.ofChange fnMessageWrong)

/-- 'laws.FnKept': WHATEVER THE INPUT: true; the input reads as it did. -/
def fnKeptSpec : ChangeSpec := { name := "fnKept", fn := fun _ => fun
  | [d1, d2] => { results := [.lit (.bool true)], args := [d1, d2] }
  | _ => none }
def fnKeptRow : OpenClaim := { program := "ytafdjjdmcnlddaagreat", sum := "3cf11ba925fdf1a10d78f791cced9acf6f9290a720ccf2b4d9c8321b2ba592a0", func := "loop.example/g00387/laws.FnKept", spec := "fnKept", inPlace := ["internal/bytealg.IndexByteString", "internal/bytealg.IndexString"], unfollowed := true, recurses := true, named := ["internal/bytealg.MaxLen"], apart := false }
def FnKeptSaid : Prop := fnKeptRow.holds Tryz.pinned (OpenSpec.ofChange fnKeptSpec)

/-- ITS FALSE NEIGHBOUR: 'it returns false'. Refute it at one input. -/
def fnKeptWrong : ChangeSpec := { name := "fnKept", fn := fun _ => fun
  | [d1, d2] => { results := [.lit (.bool false)], args := [d1, d2] }
  | _ => none }
def FnKeptWrongFalsely : Prop := fnKeptRow.holds Tryz.pinned (OpenSpec.ofChange fnKeptWrong)

/-- 'laws.FnIq': WHATEVER THE INPUT: true; the input reads as it did. -/
def fnIqSpec : ChangeSpec := { name := "fnIq", fn := fun _ => fun
  | [d] => { results := [.lit (.bool true)], args := [d] }
  | _ => none }
def fnIqRow : OpenClaim := { program := "ytafdjjdmcnlddaagreat", sum := "3cf11ba925fdf1a10d78f791cced9acf6f9290a720ccf2b4d9c8321b2ba592a0", func := "loop.example/g00387/laws.FnIq", spec := "fnIq", inPlace := ["internal/bytealg.IndexByteString", "internal/bytealg.IndexString"], unfollowed := true, recurses := true, named := ["internal/bytealg.MaxLen"], apart := false }
def FnIqSaid : Prop := fnIqRow.holds Tryz.pinned (OpenSpec.ofChange fnIqSpec)

/-- ITS FALSE NEIGHBOUR: 'it returns false'. Refute it at one input. -/
def fnIqWrong : ChangeSpec := { name := "fnIq", fn := fun _ => fun
  | [d] => { results := [.lit (.bool false)], args := [d] }
  | _ => none }
def FnIqWrongFalsely : Prop := fnIqRow.holds Tryz.pinned (OpenSpec.ofChange fnIqWrong)

/-- 'laws.FnPresence': WHATEVER THE INPUT: true; the input reads as it did. -/
def fnPresenceSpec : ChangeSpec := { name := "fnPresence", fn := fun _ => fun
  | [d] => { results := [.lit (.bool true)], args := [d] }
  | _ => none }
def fnPresenceRow : OpenClaim := { program := "ytafdjjdmcnlddaagreat", sum := "3cf11ba925fdf1a10d78f791cced9acf6f9290a720ccf2b4d9c8321b2ba592a0", func := "loop.example/g00387/laws.FnPresence", spec := "fnPresence", inPlace := ["internal/bytealg.IndexByteString", "internal/bytealg.IndexString"], unfollowed := true, recurses := true, named := ["internal/bytealg.MaxLen"], apart := false }
def FnPresenceSaid : Prop := fnPresenceRow.holds Tryz.pinned (OpenSpec.ofChange fnPresenceSpec)

/-- ITS FALSE NEIGHBOUR: 'it returns false'. Refute it at one input. -/
def fnPresenceWrong : ChangeSpec := { name := "fnPresence", fn := fun _ => fun
  | [d] => { results := [.lit (.bool false)], args := [d] }
  | _ => none }
def FnPresenceWrongFalsely : Prop := fnPresenceRow.holds Tryz.pinned (OpenSpec.ofChange fnPresenceWrong)

/- THE SECOND FORM. 'bulk': how many values and letters a reading holds, each counted each time it is reached (what is shared counts as often as it is met; a slice's spare places count too). A statement '..UptoSaid' is the law's where the arguments, and the package variables that the reading takes, are together of bulk at most 1048576: NARROWER than '..Said'. Prove '..Said' where nothing that the law and all that it calls make is longer than what came in: it says more and counts as full. Else prove '..UptoSaid'. A law counts once. -/
mutual
def uptoBulk {H : Type} : DataW H → Nat
  | .lit (.string bytes) => bytes.length + 1
  | .lit _ => 1
  | .nil => 1
  | .ptr d => uptoBulk d + 1
  | .slice elems spare => uptoBulkAll elems + uptoBulkAll spare + 1
  | .agg parts => uptoBulkAll parts + 1
  | .iface _ d => uptoBulk d + 1
  | .map entries => uptoBulkEntries entries + 1
  | .held _ => 1
def uptoBulkAll {H : Type} : List (DataW H) → Nat
  | [] => 0
  | d :: r => uptoBulk d + uptoBulkAll r
def uptoBulkEntries {H : Type} : List (Lit × DataW H) → Nat
  | [] => 0
  | x :: r => uptoBulkEntry x + uptoBulkEntries r
def uptoBulkEntry {H : Type} : Lit × DataW H → Nat
  | (.string bytes, d) => bytes.length + uptoBulk d + 1
  | (_, d) => uptoBulk d + 1
 end
def uptoSmall : (H : Type) → List (DataW H) → Bool := fun _ ds => decide (uptoBulkAll ds ≤ 1048576)
def OpenSpec.upto (s : _root_.Go.ChangeSpec) : _root_.Go.OpenSpec := { _root_.Go.OpenSpec.ofChange s with cond := some uptoSmall }

/-- 'laws.FnMessage', WHERE WHAT IT READS IS OF BULK AT MOST 1048576: true; the input reads as it did. -/
def fnMessageUptoRow : OpenClaim := { program := "ytafdjjdmcnlddaagreat", sum := "3cf11ba925fdf1a10d78f791cced9acf6f9290a720ccf2b4d9c8321b2ba592a0", func := "loop.example/g00387/laws.FnMessage", spec := "fnMessage", inPlace := ["internal/bytealg.IndexByteString", "internal/bytealg.IndexString"], unfollowed := true, recurses := true, named := ["internal/bytealg.MaxLen"], apart := false, narrowed := true }
def FnMessageUptoSaid : Prop := fnMessageUptoRow.holds Tryz.pinned (OpenSpec.upto fnMessageSpec)

/-- 'laws.FnKept', WHERE WHAT IT READS IS OF BULK AT MOST 1048576: true; the input reads as it did. -/
def fnKeptUptoRow : OpenClaim := { program := "ytafdjjdmcnlddaagreat", sum := "3cf11ba925fdf1a10d78f791cced9acf6f9290a720ccf2b4d9c8321b2ba592a0", func := "loop.example/g00387/laws.FnKept", spec := "fnKept", inPlace := ["internal/bytealg.IndexByteString", "internal/bytealg.IndexString"], unfollowed := true, recurses := true, named := ["internal/bytealg.MaxLen"], apart := false, narrowed := true }
def FnKeptUptoSaid : Prop := fnKeptUptoRow.holds Tryz.pinned (OpenSpec.upto fnKeptSpec)

/-- 'laws.FnIq', WHERE WHAT IT READS IS OF BULK AT MOST 1048576: true; the input reads as it did. -/
def fnIqUptoRow : OpenClaim := { program := "ytafdjjdmcnlddaagreat", sum := "3cf11ba925fdf1a10d78f791cced9acf6f9290a720ccf2b4d9c8321b2ba592a0", func := "loop.example/g00387/laws.FnIq", spec := "fnIq", inPlace := ["internal/bytealg.IndexByteString", "internal/bytealg.IndexString"], unfollowed := true, recurses := true, named := ["internal/bytealg.MaxLen"], apart := false, narrowed := true }
def FnIqUptoSaid : Prop := fnIqUptoRow.holds Tryz.pinned (OpenSpec.upto fnIqSpec)

/-- 'laws.FnPresence', WHERE WHAT IT READS IS OF BULK AT MOST 1048576: true; the input reads as it did. -/
def fnPresenceUptoRow : OpenClaim := { program := "ytafdjjdmcnlddaagreat", sum := "3cf11ba925fdf1a10d78f791cced9acf6f9290a720ccf2b4d9c8321b2ba592a0", func := "loop.example/g00387/laws.FnPresence", spec := "fnPresence", inPlace := ["internal/bytealg.IndexByteString", "internal/bytealg.IndexString"], unfollowed := true, recurses := true, named := ["internal/bytealg.MaxLen"], apart := false, narrowed := true }
def FnPresenceUptoSaid : Prop := fnPresenceUptoRow.holds Tryz.pinned (OpenSpec.upto fnPresenceSpec)

end Rows
end Go.Proofs.YtafdjjdmcnlddaaGreat
