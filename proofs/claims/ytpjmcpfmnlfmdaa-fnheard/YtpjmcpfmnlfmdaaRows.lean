/-
  No cell of these rows narrows 'for every input' (looked for: loops, veiled, ifaces, maps, wideKeys, modest, calm, conditions, laid).
  DERIVED. THE GIVEN ROWS OF THIS SEAT. 7 by the template 'for every input the law returns true; each argument reads behind the call as it read before'; 0 by the template 'total and deterministic' (their statements: YtpjmcpfmnlfmdaaTotals.lean).
  GIVEN WITH THE SEED: the statements are not yours to turn. If you find one false, say at which input.
  Laid BY PROGRAM, IN A SANDBOX (cutbox-rows.mjs): the forced cells as the released guide's own fill.sh prints them over the translation 7a838d4389c7b292… (all of the seat's roots in one cut). By AI agents, Wed Nov 11 2026. No macro, syntax, notation, axiom, sorry.
-/
import Derived.Test.YtpjmcpfmnlfmdaaChecked
import GoSem.Claim
import GoSem.ClaimJoined
import GoSem.ClaimMapViews
import Derived.JoinedTies
import Derived.KernelRfl
namespace Go.Proofs.Ytpjmcpfmnlfmdaa
/- THE CELL 'sum', in the pinned program and in every row, IS THE sha256 OF THE DUMP (.gsa) THAT YtpjmcpfmnlfmdaaProg.lean LOADS. Nothing in Lean hashes anything: it is a label: what it is worth is what the hold of that sum in a sandbox is worth. -/
noncomputable def Try.pinned : Pinned := { name := "ytpjmcpfmnlfmdaa", sum := "7a838d4389c7b292d1f99fda4c470ddd32b7156cd41c65e8d5678952c5359da7", checked := Try.checked }
namespace Rows
def none {H : Type} : Left H := { results := [], args := [] }

/-- 'laws.FnBlock': WHATEVER THE INPUT: true; the input reads as it did. -/
def fnBlockSpec : ChangeSpec := { name := "fnBlock", fn := fun _ => fun
  | [d1, d2] => { results := [.lit (.bool true)], args := [d1, d2] }
  | _ => none }
def fnBlockRow : OpenClaim := { program := "ytpjmcpfmnlfmdaa", sum := "7a838d4389c7b292d1f99fda4c470ddd32b7156cd41c65e8d5678952c5359da7", func := "loop.example/g00387/laws.FnBlock", spec := "fnBlock", inPlace := ["internal/bytealg.IndexByteString", "internal/bytealg.IndexString", "slices.overlaps[string]"], unfollowed := true, recurses := true, named := ["internal/bytealg.MaxLen"], apart := false }
def FnBlockSaid : Prop := fnBlockRow.holds Try.pinned (OpenSpec.ofChange fnBlockSpec)

/-- ITS FALSE NEIGHBOUR: 'it returns false'. Refute it at one input. -/
def fnBlockWrong : ChangeSpec := { name := "fnBlock", fn := fun _ => fun
  | [d1, d2] => { results := [.lit (.bool false)], args := [d1, d2] }
  | _ => none }
def FnBlockWrongFalsely : Prop := fnBlockRow.holds Try.pinned (OpenSpec.ofChange fnBlockWrong)

/-- 'laws.FnHeard': WHATEVER THE INPUT: true; the input reads as it did. -/
def fnHeardSpec : ChangeSpec := { name := "fnHeard", fn := fun _ => fun
  | [d] => { results := [.lit (.bool true)], args := [d] }
  | _ => none }
def fnHeardRow : OpenClaim := { program := "ytpjmcpfmnlfmdaa", sum := "7a838d4389c7b292d1f99fda4c470ddd32b7156cd41c65e8d5678952c5359da7", func := "loop.example/g00387/laws.FnHeard", spec := "fnHeard", inPlace := ["internal/bytealg.IndexByteString", "internal/bytealg.IndexString"], unfollowed := true, recurses := true, named := ["internal/bytealg.MaxLen"], apart := false }
def FnHeardSaid : Prop := fnHeardRow.holds Try.pinned (OpenSpec.ofChange fnHeardSpec)

/-- ITS FALSE NEIGHBOUR: 'it returns false'. Refute it at one input. -/
def fnHeardWrong : ChangeSpec := { name := "fnHeard", fn := fun _ => fun
  | [d] => { results := [.lit (.bool false)], args := [d] }
  | _ => none }
def FnHeardWrongFalsely : Prop := fnHeardRow.holds Try.pinned (OpenSpec.ofChange fnHeardWrong)

/-- 'laws.FnExactBlocksRight': WHATEVER THE INPUT: true; the input reads as it did. -/
def fnExactBlocksRightSpec : ChangeSpec := { name := "fnExactBlocksRight", fn := fun _ => fun
  | [d] => { results := [.lit (.bool true)], args := [d] }
  | _ => none }
def fnExactBlocksRightRow : OpenClaim := { program := "ytpjmcpfmnlfmdaa", sum := "7a838d4389c7b292d1f99fda4c470ddd32b7156cd41c65e8d5678952c5359da7", func := "loop.example/g00387/laws.FnExactBlocksRight", spec := "fnExactBlocksRight", inPlace := ["internal/bytealg.IndexByteString", "internal/bytealg.IndexString"], unfollowed := true, recurses := true, named := ["internal/bytealg.MaxLen"], apart := false }
def FnExactBlocksRightSaid : Prop := fnExactBlocksRightRow.holds Try.pinned (OpenSpec.ofChange fnExactBlocksRightSpec)

/-- ITS FALSE NEIGHBOUR: 'it returns false'. Refute it at one input. -/
def fnExactBlocksRightWrong : ChangeSpec := { name := "fnExactBlocksRight", fn := fun _ => fun
  | [d] => { results := [.lit (.bool false)], args := [d] }
  | _ => none }
def FnExactBlocksRightWrongFalsely : Prop := fnExactBlocksRightRow.holds Try.pinned (OpenSpec.ofChange fnExactBlocksRightWrong)

/-- 'laws.FnExactBlockAdd': WHATEVER THE INPUT: true; the input reads as it did. -/
def fnExactBlockAddSpec : ChangeSpec := { name := "fnExactBlockAdd", fn := fun _ => fun
  | [d1, d2] => { results := [.lit (.bool true)], args := [d1, d2] }
  | _ => none }
def fnExactBlockAddRow : OpenClaim := { program := "ytpjmcpfmnlfmdaa", sum := "7a838d4389c7b292d1f99fda4c470ddd32b7156cd41c65e8d5678952c5359da7", func := "loop.example/g00387/laws.FnExactBlockAdd", spec := "fnExactBlockAdd", inPlace := ["internal/bytealg.IndexByteString", "internal/bytealg.IndexString", "slices.overlaps[string]"], unfollowed := true, recurses := true, named := ["internal/bytealg.MaxLen"], apart := false }
def FnExactBlockAddSaid : Prop := fnExactBlockAddRow.holds Try.pinned (OpenSpec.ofChange fnExactBlockAddSpec)

/-- ITS FALSE NEIGHBOUR: 'it returns false'. Refute it at one input. -/
def fnExactBlockAddWrong : ChangeSpec := { name := "fnExactBlockAdd", fn := fun _ => fun
  | [d1, d2] => { results := [.lit (.bool false)], args := [d1, d2] }
  | _ => none }
def FnExactBlockAddWrongFalsely : Prop := fnExactBlockAddRow.holds Try.pinned (OpenSpec.ofChange fnExactBlockAddWrong)

/-- 'laws.FnExactBlockDel': WHATEVER THE INPUT: true; the input reads as it did. -/
def fnExactBlockDelSpec : ChangeSpec := { name := "fnExactBlockDel", fn := fun _ => fun
  | [d1, d2] => { results := [.lit (.bool true)], args := [d1, d2] }
  | _ => none }
def fnExactBlockDelRow : OpenClaim := { program := "ytpjmcpfmnlfmdaa", sum := "7a838d4389c7b292d1f99fda4c470ddd32b7156cd41c65e8d5678952c5359da7", func := "loop.example/g00387/laws.FnExactBlockDel", spec := "fnExactBlockDel", inPlace := ["internal/bytealg.IndexByteString", "internal/bytealg.IndexString"], unfollowed := true, recurses := true, named := ["internal/bytealg.MaxLen"], apart := false }
def FnExactBlockDelSaid : Prop := fnExactBlockDelRow.holds Try.pinned (OpenSpec.ofChange fnExactBlockDelSpec)

/-- ITS FALSE NEIGHBOUR: 'it returns false'. Refute it at one input. -/
def fnExactBlockDelWrong : ChangeSpec := { name := "fnExactBlockDel", fn := fun _ => fun
  | [d1, d2] => { results := [.lit (.bool false)], args := [d1, d2] }
  | _ => none }
def FnExactBlockDelWrongFalsely : Prop := fnExactBlockDelRow.holds Try.pinned (OpenSpec.ofChange fnExactBlockDelWrong)

/-- 'laws.FnExactBlocked': WHATEVER THE INPUT: true; the input reads as it did. -/
def fnExactBlockedSpec : ChangeSpec := { name := "fnExactBlocked", fn := fun _ => fun
  | [d1, d2] => { results := [.lit (.bool true)], args := [d1, d2] }
  | _ => none }
def fnExactBlockedRow : OpenClaim := { program := "ytpjmcpfmnlfmdaa", sum := "7a838d4389c7b292d1f99fda4c470ddd32b7156cd41c65e8d5678952c5359da7", func := "loop.example/g00387/laws.FnExactBlocked", spec := "fnExactBlocked", inPlace := ["internal/bytealg.IndexByteString", "internal/bytealg.IndexString"], unfollowed := true, recurses := true, named := ["internal/bytealg.MaxLen"], apart := false }
def FnExactBlockedSaid : Prop := fnExactBlockedRow.holds Try.pinned (OpenSpec.ofChange fnExactBlockedSpec)

/-- ITS FALSE NEIGHBOUR: 'it returns false'. Refute it at one input. -/
def fnExactBlockedWrong : ChangeSpec := { name := "fnExactBlocked", fn := fun _ => fun
  | [d1, d2] => { results := [.lit (.bool false)], args := [d1, d2] }
  | _ => none }
def FnExactBlockedWrongFalsely : Prop := fnExactBlockedRow.holds Try.pinned (OpenSpec.ofChange fnExactBlockedWrong)

/-- 'laws.FnExactHeard': WHATEVER THE INPUT: true; the input reads as it did. -/
def fnExactHeardSpec : ChangeSpec := { name := "fnExactHeard", fn := fun _ => fun
  | [d1, d2] => { results := [.lit (.bool true)], args := [d1, d2] }
  | _ => none }
def fnExactHeardRow : OpenClaim := { program := "ytpjmcpfmnlfmdaa", sum := "7a838d4389c7b292d1f99fda4c470ddd32b7156cd41c65e8d5678952c5359da7", func := "loop.example/g00387/laws.FnExactHeard", spec := "fnExactHeard", inPlace := ["internal/bytealg.IndexByteString", "internal/bytealg.IndexString"], unfollowed := true, recurses := true, named := ["internal/bytealg.MaxLen"], apart := false }
def FnExactHeardSaid : Prop := fnExactHeardRow.holds Try.pinned (OpenSpec.ofChange fnExactHeardSpec)

/-- ITS FALSE NEIGHBOUR: 'it returns false'. Refute it at one input. -/
def fnExactHeardWrong : ChangeSpec := { name := "fnExactHeard", fn := fun _ => fun
  | [d1, d2] => { results := [.lit (.bool false)], args := [d1, d2] }
  | _ => none }
def FnExactHeardWrongFalsely : Prop := fnExactHeardRow.holds Try.pinned (OpenSpec.ofChange fnExactHeardWrong)

/- THE SECOND FORM. 'bulk': how many values and letters a reading holds, each counted each time it is reached (what is shared counts as often as it is met; a slice's spare places count too). A statement '..UptoSaid' is the law's where the arguments, and the package variables that the reading takes, are together of bulk at most 1048576: NARROWER than '..Said'. Prove '..Said' where nothing that the law and all that it calls make is longer than what came in: it says more and counts as full. Else prove '..UptoSaid'. A law counts once. -/
mutual
def uptoBulk {H : Type} : DataW H → Nat
  | .lit (.string bytes) => bytes.length + 1
  | .lit _ => 1
  | .nil => 1
  | .ptr d => uptoBulk d + 1
  | .slice elems spare => uptoBulkAll elems + uptoBulkAll spare + 1
  | .agg parts => uptoBulkAll parts + 1
  | .iface _ d => uptoBulk d + 1
  | .map entries => uptoBulkEntries entries + 1
  | .held _ => 1
def uptoBulkAll {H : Type} : List (DataW H) → Nat
  | [] => 0
  | d :: r => uptoBulk d + uptoBulkAll r
def uptoBulkEntries {H : Type} : List (Lit × DataW H) → Nat
  | [] => 0
  | x :: r => uptoBulkEntry x + uptoBulkEntries r
def uptoBulkEntry {H : Type} : Lit × DataW H → Nat
  | (.string bytes, d) => bytes.length + uptoBulk d + 1
  | (_, d) => uptoBulk d + 1
 end
def uptoSmall : (H : Type) → List (DataW H) → Bool := fun _ ds => decide (uptoBulkAll ds ≤ 1048576)
def OpenSpec.upto (s : _root_.Go.ChangeSpec) : _root_.Go.OpenSpec := { _root_.Go.OpenSpec.ofChange s with cond := some uptoSmall }

/-- 'laws.FnBlock', WHERE WHAT IT READS IS OF BULK AT MOST 1048576: true; the input reads as it did. -/
def fnBlockUptoRow : OpenClaim := { program := "ytpjmcpfmnlfmdaa", sum := "7a838d4389c7b292d1f99fda4c470ddd32b7156cd41c65e8d5678952c5359da7", func := "loop.example/g00387/laws.FnBlock", spec := "fnBlock", inPlace := ["internal/bytealg.IndexByteString", "internal/bytealg.IndexString", "slices.overlaps[string]"], unfollowed := true, recurses := true, named := ["internal/bytealg.MaxLen"], apart := false, narrowed := true }
def FnBlockUptoSaid : Prop := fnBlockUptoRow.holds Try.pinned (OpenSpec.upto fnBlockSpec)

/-- 'laws.FnHeard', WHERE WHAT IT READS IS OF BULK AT MOST 1048576: true; the input reads as it did. -/
def fnHeardUptoRow : OpenClaim := { program := "ytpjmcpfmnlfmdaa", sum := "7a838d4389c7b292d1f99fda4c470ddd32b7156cd41c65e8d5678952c5359da7", func := "loop.example/g00387/laws.FnHeard", spec := "fnHeard", inPlace := ["internal/bytealg.IndexByteString", "internal/bytealg.IndexString"], unfollowed := true, recurses := true, named := ["internal/bytealg.MaxLen"], apart := false, narrowed := true }
def FnHeardUptoSaid : Prop := fnHeardUptoRow.holds Try.pinned (OpenSpec.upto fnHeardSpec)

/-- 'laws.FnExactBlocksRight', WHERE WHAT IT READS IS OF BULK AT MOST 1048576: true; the input reads as it did. -/
def fnExactBlocksRightUptoRow : OpenClaim := { program := "ytpjmcpfmnlfmdaa", sum := "7a838d4389c7b292d1f99fda4c470ddd32b7156cd41c65e8d5678952c5359da7", func := "loop.example/g00387/laws.FnExactBlocksRight", spec := "fnExactBlocksRight", inPlace := ["internal/bytealg.IndexByteString", "internal/bytealg.IndexString"], unfollowed := true, recurses := true, named := ["internal/bytealg.MaxLen"], apart := false, narrowed := true }
def FnExactBlocksRightUptoSaid : Prop := fnExactBlocksRightUptoRow.holds Try.pinned (OpenSpec.upto fnExactBlocksRightSpec)

/-- 'laws.FnExactBlockAdd', WHERE WHAT IT READS IS OF BULK AT MOST 1048576: true; the input reads as it did. -/
def fnExactBlockAddUptoRow : OpenClaim := { program := "ytpjmcpfmnlfmdaa", sum := "7a838d4389c7b292d1f99fda4c470ddd32b7156cd41c65e8d5678952c5359da7", func := "loop.example/g00387/laws.FnExactBlockAdd", spec := "fnExactBlockAdd", inPlace := ["internal/bytealg.IndexByteString", "internal/bytealg.IndexString", "slices.overlaps[string]"], unfollowed := true, recurses := true, named := ["internal/bytealg.MaxLen"], apart := false, narrowed := true }
def FnExactBlockAddUptoSaid : Prop := fnExactBlockAddUptoRow.holds Try.pinned (OpenSpec.upto fnExactBlockAddSpec)

/-- 'laws.FnExactBlockDel', WHERE WHAT IT READS IS OF BULK AT MOST 1048576: true; the input reads as it did. -/
def fnExactBlockDelUptoRow : OpenClaim := { program := "ytpjmcpfmnlfmdaa", sum := "7a838d4389c7b292d1f99fda4c470ddd32b7156cd41c65e8d5678952c5359da7", func := "loop.example/g00387/laws.FnExactBlockDel", spec := "fnExactBlockDel", inPlace := ["internal/bytealg.IndexByteString", "internal/bytealg.IndexString"], unfollowed := true, recurses := true, named := ["internal/bytealg.MaxLen"], apart := false, narrowed := true }
def FnExactBlockDelUptoSaid : Prop := fnExactBlockDelUptoRow.holds Try.pinned (OpenSpec.upto fnExactBlockDelSpec)

/-- 'laws.FnExactBlocked', WHERE WHAT IT READS IS OF BULK AT MOST 1048576: true; the input reads as it did. -/
def fnExactBlockedUptoRow : OpenClaim := { program := "ytpjmcpfmnlfmdaa", sum := "7a838d4389c7b292d1f99fda4c470ddd32b7156cd41c65e8d5678952c5359da7", func := "loop.example/g00387/laws.FnExactBlocked", spec := "fnExactBlocked", inPlace := ["internal/bytealg.IndexByteString", "internal/bytealg.IndexString"], unfollowed := true, recurses := true, named := ["internal/bytealg.MaxLen"], apart := false, narrowed := true }
def FnExactBlockedUptoSaid : Prop := fnExactBlockedUptoRow.holds Try.pinned (OpenSpec.upto fnExactBlockedSpec)

/-- 'laws.FnExactHeard', WHERE WHAT IT READS IS OF BULK AT MOST 1048576: true; the input reads as it did. -/
def fnExactHeardUptoRow : OpenClaim := { program := "ytpjmcpfmnlfmdaa", sum := "7a838d4389c7b292d1f99fda4c470ddd32b7156cd41c65e8d5678952c5359da7", func := "loop.example/g00387/laws.FnExactHeard", spec := "fnExactHeard", inPlace := ["internal/bytealg.IndexByteString", "internal/bytealg.IndexString"], unfollowed := true, recurses := true, named := ["internal/bytealg.MaxLen"], apart := false, narrowed := true }
def FnExactHeardUptoSaid : Prop := fnExactHeardUptoRow.holds Try.pinned (OpenSpec.upto fnExactHeardSpec)

end Rows
end Go.Proofs.Ytpjmcpfmnlfmdaa
