/-
  No cell of these rows narrows 'for every input' (looked for: loops, veiled, ifaces, maps, wideKeys, modest, calm, conditions, laid).
  DERIVED. THE GIVEN ROWS OF THIS SEAT. 8 by the template 'for every input the law returns true; each argument reads behind the call as it read before'; 0 by the template 'total and deterministic' (their statements: YtddefjnnehjjkaaTotals.lean).
  GIVEN WITH THE SEED: the statements are not yours to turn. If you find one false, say at which input.
  Laid BY PROGRAM, IN A SANDBOX (cutbox-rows.mjs): the forced cells as the released guide's own fill.sh prints them over the translation e4c5caaa736eae38… (all of the seat's roots in one cut). By AI agents, Wed Nov 11 2026. No macro, syntax, notation, axiom, sorry.
-/
import Derived.Test.YtddefjnnehjjkaaChecked
import GoSem.Claim
import GoSem.ClaimJoined
import GoSem.ClaimMapViews
import Derived.JoinedTies
import Derived.KernelRfl
namespace Go.Proofs.Ytddefjnnehjjkaa
/- THE CELL 'sum', in the pinned program and in every row, IS THE sha256 OF THE DUMP (.gsa) THAT YtddefjnnehjjkaaProg.lean LOADS. Nothing in Lean hashes anything: it is a label: what it is worth is what the hold of that sum in a sandbox is worth. -/
noncomputable def Try.pinned : Pinned := { name := "ytddefjnnehjjkaa", sum := "e4c5caaa736eae385517c56c644ed67fda5da78475a00c623dc48eafda486737", checked := Try.checked }
namespace Rows
def none {H : Type} : Left H := { results := [], args := [] }

/-- 'laws.FnJid': WHATEVER THE INPUT: true; the input reads as it did. -/
def fnJidSpec : ChangeSpec := { name := "fnJid", fn := fun _ => fun
  | [d1, d2] => { results := [.lit (.bool true)], args := [d1, d2] }
  | _ => none }
def fnJidRow : OpenClaim := { program := "ytddefjnnehjjkaa", sum := "e4c5caaa736eae385517c56c644ed67fda5da78475a00c623dc48eafda486737", func := "loop.example/g00387/laws.FnJid", spec := "fnJid", inPlace := ["internal/bytealg.IndexByteString", "internal/bytealg.IndexString"], unfollowed := true, recurses := true, named := ["internal/bytealg.MaxLen"], apart := false }
def FnJidSaid : Prop := fnJidRow.holds Try.pinned (OpenSpec.ofChange fnJidSpec)

/-- ITS FALSE NEIGHBOUR: 'it returns false'. Refute it at one input. -/
def fnJidWrong : ChangeSpec := { name := "fnJid", fn := fun _ => fun
  | [d1, d2] => { results := [.lit (.bool false)], args := [d1, d2] }
  | _ => none }
def FnJidWrongFalsely : Prop := fnJidRow.holds Try.pinned (OpenSpec.ofChange fnJidWrong)

/-- 'laws.FnLess': WHATEVER THE INPUT: true; the input reads as it did. -/
def fnLessSpec : ChangeSpec := { name := "fnLess", fn := fun _ => fun
  | [d1, d2] => { results := [.lit (.bool true)], args := [d1, d2] }
  | _ => none }
def fnLessRow : OpenClaim := { program := "ytddefjnnehjjkaa", sum := "e4c5caaa736eae385517c56c644ed67fda5da78475a00c623dc48eafda486737", func := "loop.example/g00387/laws.FnLess", spec := "fnLess", inPlace := ["internal/bytealg.IndexByteString", "internal/bytealg.IndexString"], unfollowed := true, recurses := true, named := ["internal/bytealg.MaxLen"], apart := false }
def FnLessSaid : Prop := fnLessRow.holds Try.pinned (OpenSpec.ofChange fnLessSpec)

/-- ITS FALSE NEIGHBOUR: 'it returns false'. Refute it at one input. -/
def fnLessWrong : ChangeSpec := { name := "fnLess", fn := fun _ => fun
  | [d1, d2] => { results := [.lit (.bool false)], args := [d1, d2] }
  | _ => none }
def FnLessWrongFalsely : Prop := fnLessRow.holds Try.pinned (OpenSpec.ofChange fnLessWrong)

/-- 'laws.FnExactJidRight': WHATEVER THE INPUT: true; the input reads as it did. -/
def fnExactJidRightSpec : ChangeSpec := { name := "fnExactJidRight", fn := fun _ => fun
  | [d] => { results := [.lit (.bool true)], args := [d] }
  | _ => none }
def fnExactJidRightRow : OpenClaim := { program := "ytddefjnnehjjkaa", sum := "e4c5caaa736eae385517c56c644ed67fda5da78475a00c623dc48eafda486737", func := "loop.example/g00387/laws.FnExactJidRight", spec := "fnExactJidRight", inPlace := ["internal/bytealg.IndexByteString", "internal/bytealg.IndexString"], unfollowed := true, recurses := true, named := ["internal/bytealg.MaxLen"], apart := false }
def FnExactJidRightSaid : Prop := fnExactJidRightRow.holds Try.pinned (OpenSpec.ofChange fnExactJidRightSpec)

/-- ITS FALSE NEIGHBOUR: 'it returns false'. Refute it at one input. -/
def fnExactJidRightWrong : ChangeSpec := { name := "fnExactJidRight", fn := fun _ => fun
  | [d] => { results := [.lit (.bool false)], args := [d] }
  | _ => none }
def FnExactJidRightWrongFalsely : Prop := fnExactJidRightRow.holds Try.pinned (OpenSpec.ofChange fnExactJidRightWrong)

/-- 'laws.FnExactJidText': WHATEVER THE INPUT: true; the input reads as it did. -/
def fnExactJidTextSpec : ChangeSpec := { name := "fnExactJidText", fn := fun _ => fun
  | [d] => { results := [.lit (.bool true)], args := [d] }
  | _ => none }
def fnExactJidTextRow : OpenClaim := { program := "ytddefjnnehjjkaa", sum := "e4c5caaa736eae385517c56c644ed67fda5da78475a00c623dc48eafda486737", func := "loop.example/g00387/laws.FnExactJidText", spec := "fnExactJidText", inPlace := ["internal/bytealg.IndexByteString", "internal/bytealg.IndexString"], unfollowed := true, recurses := true, named := ["internal/bytealg.MaxLen"], apart := false }
def FnExactJidTextSaid : Prop := fnExactJidTextRow.holds Try.pinned (OpenSpec.ofChange fnExactJidTextSpec)

/-- ITS FALSE NEIGHBOUR: 'it returns false'. Refute it at one input. -/
def fnExactJidTextWrong : ChangeSpec := { name := "fnExactJidText", fn := fun _ => fun
  | [d] => { results := [.lit (.bool false)], args := [d] }
  | _ => none }
def FnExactJidTextWrongFalsely : Prop := fnExactJidTextRow.holds Try.pinned (OpenSpec.ofChange fnExactJidTextWrong)

/-- 'laws.FnExactJidRead': WHATEVER THE INPUT: true; the input reads as it did. -/
def fnExactJidReadSpec : ChangeSpec := { name := "fnExactJidRead", fn := fun _ => fun
  | [d] => { results := [.lit (.bool true)], args := [d] }
  | _ => none }
def fnExactJidReadRow : OpenClaim := { program := "ytddefjnnehjjkaa", sum := "e4c5caaa736eae385517c56c644ed67fda5da78475a00c623dc48eafda486737", func := "loop.example/g00387/laws.FnExactJidRead", spec := "fnExactJidRead", inPlace := ["internal/bytealg.IndexByteString", "internal/bytealg.IndexString"], unfollowed := true, recurses := true, named := ["internal/bytealg.MaxLen"], apart := false }
def FnExactJidReadSaid : Prop := fnExactJidReadRow.holds Try.pinned (OpenSpec.ofChange fnExactJidReadSpec)

/-- ITS FALSE NEIGHBOUR: 'it returns false'. Refute it at one input. -/
def fnExactJidReadWrong : ChangeSpec := { name := "fnExactJidRead", fn := fun _ => fun
  | [d] => { results := [.lit (.bool false)], args := [d] }
  | _ => none }
def FnExactJidReadWrongFalsely : Prop := fnExactJidReadRow.holds Try.pinned (OpenSpec.ofChange fnExactJidReadWrong)

/-- 'laws.FnExactBare': WHATEVER THE INPUT: true; the input reads as it did. -/
def fnExactBareSpec : ChangeSpec := { name := "fnExactBare", fn := fun _ => fun
  | [d] => { results := [.lit (.bool true)], args := [d] }
  | _ => none }
def fnExactBareRow : OpenClaim := { program := "ytddefjnnehjjkaa", sum := "e4c5caaa736eae385517c56c644ed67fda5da78475a00c623dc48eafda486737", func := "loop.example/g00387/laws.FnExactBare", spec := "fnExactBare", inPlace := ["internal/bytealg.IndexByteString", "internal/bytealg.IndexString"], unfollowed := true, recurses := true, named := ["internal/bytealg.MaxLen"], apart := false }
def FnExactBareSaid : Prop := fnExactBareRow.holds Try.pinned (OpenSpec.ofChange fnExactBareSpec)

/-- ITS FALSE NEIGHBOUR: 'it returns false'. Refute it at one input. -/
def fnExactBareWrong : ChangeSpec := { name := "fnExactBare", fn := fun _ => fun
  | [d] => { results := [.lit (.bool false)], args := [d] }
  | _ => none }
def FnExactBareWrongFalsely : Prop := fnExactBareRow.holds Try.pinned (OpenSpec.ofChange fnExactBareWrong)

/-- 'laws.FnExactJidLess': WHATEVER THE INPUT: true; the input reads as it did. -/
def fnExactJidLessSpec : ChangeSpec := { name := "fnExactJidLess", fn := fun _ => fun
  | [d1, d2] => { results := [.lit (.bool true)], args := [d1, d2] }
  | _ => none }
def fnExactJidLessRow : OpenClaim := { program := "ytddefjnnehjjkaa", sum := "e4c5caaa736eae385517c56c644ed67fda5da78475a00c623dc48eafda486737", func := "loop.example/g00387/laws.FnExactJidLess", spec := "fnExactJidLess", inPlace := ["internal/bytealg.IndexByteString", "internal/bytealg.IndexString"], unfollowed := true, recurses := true, named := ["internal/bytealg.MaxLen"], apart := false }
def FnExactJidLessSaid : Prop := fnExactJidLessRow.holds Try.pinned (OpenSpec.ofChange fnExactJidLessSpec)

/-- ITS FALSE NEIGHBOUR: 'it returns false'. Refute it at one input. -/
def fnExactJidLessWrong : ChangeSpec := { name := "fnExactJidLess", fn := fun _ => fun
  | [d1, d2] => { results := [.lit (.bool false)], args := [d1, d2] }
  | _ => none }
def FnExactJidLessWrongFalsely : Prop := fnExactJidLessRow.holds Try.pinned (OpenSpec.ofChange fnExactJidLessWrong)

/-- 'laws.FnExactMatches': WHATEVER THE INPUT: true; the input reads as it did. -/
def fnExactMatchesSpec : ChangeSpec := { name := "fnExactMatches", fn := fun _ => fun
  | [d1, d2] => { results := [.lit (.bool true)], args := [d1, d2] }
  | _ => none }
def fnExactMatchesRow : OpenClaim := { program := "ytddefjnnehjjkaa", sum := "e4c5caaa736eae385517c56c644ed67fda5da78475a00c623dc48eafda486737", func := "loop.example/g00387/laws.FnExactMatches", spec := "fnExactMatches", inPlace := ["internal/bytealg.IndexByteString", "internal/bytealg.IndexString"], unfollowed := true, recurses := true, named := ["internal/bytealg.MaxLen"], apart := false }
def FnExactMatchesSaid : Prop := fnExactMatchesRow.holds Try.pinned (OpenSpec.ofChange fnExactMatchesSpec)

/-- ITS FALSE NEIGHBOUR: 'it returns false'. Refute it at one input. -/
def fnExactMatchesWrong : ChangeSpec := { name := "fnExactMatches", fn := fun _ => fun
  | [d1, d2] => { results := [.lit (.bool false)], args := [d1, d2] }
  | _ => none }
def FnExactMatchesWrongFalsely : Prop := fnExactMatchesRow.holds Try.pinned (OpenSpec.ofChange fnExactMatchesWrong)

/- THE SECOND FORM. 'bulk': how many values and letters a reading holds, each counted each time it is reached (what is shared counts as often as it is met; a slice's spare places count too). A statement '..UptoSaid' is the law's where the arguments, and the package variables that the reading takes, are together of bulk at most 1048576: NARROWER than '..Said'. Prove '..Said' where nothing that the law and all that it calls make is longer than what came in: it says more and counts as full. Else prove '..UptoSaid'. A law counts once. -/
mutual
def uptoBulk {H : Type} : DataW H → Nat
  | .lit (.string bytes) => bytes.length + 1
  | .lit _ => 1
  | .nil => 1
  | .ptr d => uptoBulk d + 1
  | .slice elems spare => uptoBulkAll elems + uptoBulkAll spare + 1
  | .agg parts => uptoBulkAll parts + 1
  | .iface _ d => uptoBulk d + 1
  | .map entries => uptoBulkEntries entries + 1
  | .held _ => 1
def uptoBulkAll {H : Type} : List (DataW H) → Nat
  | [] => 0
  | d :: r => uptoBulk d + uptoBulkAll r
def uptoBulkEntries {H : Type} : List (Lit × DataW H) → Nat
  | [] => 0
  | x :: r => uptoBulkEntry x + uptoBulkEntries r
def uptoBulkEntry {H : Type} : Lit × DataW H → Nat
  | (.string bytes, d) => bytes.length + uptoBulk d + 1
  | (_, d) => uptoBulk d + 1
 end
def uptoSmall : (H : Type) → List (DataW H) → Bool := fun _ ds => decide (uptoBulkAll ds ≤ 1048576)
def OpenSpec.upto (s : _root_.Go.ChangeSpec) : _root_.Go.OpenSpec := { _root_.Go.OpenSpec.ofChange s with cond := some uptoSmall }

/-- 'laws.FnJid', WHERE WHAT IT READS IS OF BULK AT MOST 1048576: true; the input reads as it did. -/
def fnJidUptoRow : OpenClaim := { program := "ytddefjnnehjjkaa", sum := "e4c5caaa736eae385517c56c644ed67fda5da78475a00c623dc48eafda486737", func := "loop.example/g00387/laws.FnJid", spec := "fnJid", inPlace := ["internal/bytealg.IndexByteString", "internal/bytealg.IndexString"], unfollowed := true, recurses := true, named := ["internal/bytealg.MaxLen"], apart := false, narrowed := true }
def FnJidUptoSaid : Prop := fnJidUptoRow.holds Try.pinned (OpenSpec.upto fnJidSpec)

/-- 'laws.FnLess', WHERE WHAT IT READS IS OF BULK AT MOST 1048576: true; the input reads as it did. -/
def fnLessUptoRow : OpenClaim := { program := "ytddefjnnehjjkaa", sum := "e4c5caaa736eae385517c56c644ed67fda5da78475a00c623dc48eafda486737", func := "loop.example/g00387/laws.FnLess", spec := "fnLess", inPlace := ["internal/bytealg.IndexByteString", "internal/bytealg.IndexString"], unfollowed := true, recurses := true, named := ["internal/bytealg.MaxLen"], apart := false, narrowed := true }
def FnLessUptoSaid : Prop := fnLessUptoRow.holds Try.pinned (OpenSpec.upto fnLessSpec)

/-- 'laws.FnExactJidRight', WHERE WHAT IT READS IS OF BULK AT MOST 1048576: true; the input reads as it did. -/
def fnExactJidRightUptoRow : OpenClaim := { program := "ytddefjnnehjjkaa", sum := "e4c5caaa736eae385517c56c644ed67fda5da78475a00c623dc48eafda486737", func := "loop.example/g00387/laws.FnExactJidRight", spec := "fnExactJidRight", inPlace := ["internal/bytealg.IndexByteString", "internal/bytealg.IndexString"], unfollowed := true, recurses := true, named := ["internal/bytealg.MaxLen"], apart := false, narrowed := true }
def FnExactJidRightUptoSaid : Prop := fnExactJidRightUptoRow.holds Try.pinned (OpenSpec.upto fnExactJidRightSpec)

/-- 'laws.FnExactJidText', WHERE WHAT IT READS IS OF BULK AT MOST 1048576: true; the input reads as it did. -/
def fnExactJidTextUptoRow : OpenClaim := { program := "ytddefjnnehjjkaa", sum := "e4c5caaa736eae385517c56c644ed67fda5da78475a00c623dc48eafda486737", func := "loop.example/g00387/laws.FnExactJidText", spec := "fnExactJidText", inPlace := ["internal/bytealg.IndexByteString", "internal/bytealg.IndexString"], unfollowed := true, recurses := true, named := ["internal/bytealg.MaxLen"], apart := false, narrowed := true }
def FnExactJidTextUptoSaid : Prop := fnExactJidTextUptoRow.holds Try.pinned (OpenSpec.upto fnExactJidTextSpec)

/-- 'laws.FnExactJidRead', WHERE WHAT IT READS IS OF BULK AT MOST 1048576: true; the input reads as it did. -/
def fnExactJidReadUptoRow : OpenClaim := { program := "ytddefjnnehjjkaa", sum := "e4c5caaa736eae385517c56c644ed67fda5da78475a00c623dc48eafda486737", func := "loop.example/g00387/laws.FnExactJidRead", spec := "fnExactJidRead", inPlace := ["internal/bytealg.IndexByteString", "internal/bytealg.IndexString"], unfollowed := true, recurses := true, named := ["internal/bytealg.MaxLen"], apart := false, narrowed := true }
def FnExactJidReadUptoSaid : Prop := fnExactJidReadUptoRow.holds Try.pinned (OpenSpec.upto fnExactJidReadSpec)

/-- 'laws.FnExactBare', WHERE WHAT IT READS IS OF BULK AT MOST 1048576: true; the input reads as it did. -/
def fnExactBareUptoRow : OpenClaim := { program := "ytddefjnnehjjkaa", sum := "e4c5caaa736eae385517c56c644ed67fda5da78475a00c623dc48eafda486737", func := "loop.example/g00387/laws.FnExactBare", spec := "fnExactBare", inPlace := ["internal/bytealg.IndexByteString", "internal/bytealg.IndexString"], unfollowed := true, recurses := true, named := ["internal/bytealg.MaxLen"], apart := false, narrowed := true }
def FnExactBareUptoSaid : Prop := fnExactBareUptoRow.holds Try.pinned (OpenSpec.upto fnExactBareSpec)

/-- 'laws.FnExactJidLess', WHERE WHAT IT READS IS OF BULK AT MOST 1048576: true; the input reads as it did. -/
def fnExactJidLessUptoRow : OpenClaim := { program := "ytddefjnnehjjkaa", sum := "e4c5caaa736eae385517c56c644ed67fda5da78475a00c623dc48eafda486737", func := "loop.example/g00387/laws.FnExactJidLess", spec := "fnExactJidLess", inPlace := ["internal/bytealg.IndexByteString", "internal/bytealg.IndexString"], unfollowed := true, recurses := true, named := ["internal/bytealg.MaxLen"], apart := false, narrowed := true }
def FnExactJidLessUptoSaid : Prop := fnExactJidLessUptoRow.holds Try.pinned (OpenSpec.upto fnExactJidLessSpec)

/-- 'laws.FnExactMatches', WHERE WHAT IT READS IS OF BULK AT MOST 1048576: true; the input reads as it did. -/
def fnExactMatchesUptoRow : OpenClaim := { program := "ytddefjnnehjjkaa", sum := "e4c5caaa736eae385517c56c644ed67fda5da78475a00c623dc48eafda486737", func := "loop.example/g00387/laws.FnExactMatches", spec := "fnExactMatches", inPlace := ["internal/bytealg.IndexByteString", "internal/bytealg.IndexString"], unfollowed := true, recurses := true, named := ["internal/bytealg.MaxLen"], apart := false, narrowed := true }
def FnExactMatchesUptoSaid : Prop := fnExactMatchesUptoRow.holds Try.pinned (OpenSpec.upto fnExactMatchesSpec)

end Rows
end Go.Proofs.Ytddefjnnehjjkaa
