/-
  No cell of these rows narrows 'for every input' (looked for: loops, veiled, ifaces, maps, wideKeys, modest, calm, conditions, laid).
  DERIVED. THE GIVEN ROWS OF THIS SEAT. 7 by the template 'for every input the law returns true; each argument reads behind the call as it read before'; 0 by the template 'total and deterministic' (their statements: YtihjgkicmgomcaaTotals.lean).
  GIVEN WITH THE SEED: the statements are not yours to turn. If you find one false, say at which input.
  Laid BY PROGRAM, IN A SANDBOX (cutbox-rows.mjs): the forced cells as the released guide's own fill.sh prints them over the translation 7edf22b96e06d262… (all of the seat's roots in one cut). By AI agents, Wed Nov 11 2026. No macro, syntax, notation, axiom, sorry.
-/
import Derived.Test.YtihjgkicmgomcaaChecked
import GoSem.Claim
import GoSem.ClaimJoined
import GoSem.ClaimMapViews
import Derived.JoinedTies
import Derived.KernelRfl
namespace Go.Proofs.Ytihjgkicmgomcaa
/- THE CELL 'sum', in the pinned program and in every row, IS THE sha256 OF THE DUMP (.gsa) THAT YtihjgkicmgomcaaProg.lean LOADS. Nothing in Lean hashes anything: it is a label: what it is worth is what the hold of that sum in a sandbox is worth. -/
noncomputable def Try.pinned : Pinned := { name := "ytihjgkicmgomcaa", sum := "7edf22b96e06d26250bb13d135dbdf9e1a7761a19360292f19309b38f8995d46", checked := Try.checked }
namespace Rows
def none {H : Type} : Left H := { results := [], args := [] }

/-- 'laws.FnEscape': WHATEVER THE INPUT: true; the input reads as it did. -/
def fnEscapeSpec : ChangeSpec := { name := "fnEscape", fn := fun _ => fun
  | [d1, d2] => { results := [.lit (.bool true)], args := [d1, d2] }
  | _ => none }
def fnEscapeRow : OpenClaim := { program := "ytihjgkicmgomcaa", sum := "7edf22b96e06d26250bb13d135dbdf9e1a7761a19360292f19309b38f8995d46", func := "loop.example/g00387/laws.FnEscape", spec := "fnEscape", apart := false }
def FnEscapeSaid : Prop := fnEscapeRow.holds Try.pinned (OpenSpec.ofChange fnEscapeSpec)

/-- ITS FALSE NEIGHBOUR: 'it returns false'. Refute it at one input. -/
def fnEscapeWrong : ChangeSpec := { name := "fnEscape", fn := fun _ => fun
  | [d1, d2] => { results := [.lit (.bool false)], args := [d1, d2] }
  | _ => none }
def FnEscapeWrongFalsely : Prop := fnEscapeRow.holds Try.pinned (OpenSpec.ofChange fnEscapeWrong)

/-- 'laws.FnReply': WHATEVER THE INPUT: true; the input reads as it did. -/
def fnReplySpec : ChangeSpec := { name := "fnReply", fn := fun _ => fun
  | [d1, d2] => { results := [.lit (.bool true)], args := [d1, d2] }
  | _ => none }
def fnReplyRow : OpenClaim := { program := "ytihjgkicmgomcaa", sum := "7edf22b96e06d26250bb13d135dbdf9e1a7761a19360292f19309b38f8995d46", func := "loop.example/g00387/laws.FnReply", spec := "fnReply", inPlace := ["internal/bytealg.IndexByteString", "internal/bytealg.IndexString"], unfollowed := true, recurses := true, named := ["internal/bytealg.MaxLen"], apart := false }
def FnReplySaid : Prop := fnReplyRow.holds Try.pinned (OpenSpec.ofChange fnReplySpec)

/-- ITS FALSE NEIGHBOUR: 'it returns false'. Refute it at one input. -/
def fnReplyWrong : ChangeSpec := { name := "fnReply", fn := fun _ => fun
  | [d1, d2] => { results := [.lit (.bool false)], args := [d1, d2] }
  | _ => none }
def FnReplyWrongFalsely : Prop := fnReplyRow.holds Try.pinned (OpenSpec.ofChange fnReplyWrong)

/-- 'laws.FnExactStanzaRight': WHATEVER THE INPUT: true; the input reads as it did. -/
def fnExactStanzaRightSpec : ChangeSpec := { name := "fnExactStanzaRight", fn := fun _ => fun
  | [d] => { results := [.lit (.bool true)], args := [d] }
  | _ => none }
def fnExactStanzaRightRow : OpenClaim := { program := "ytihjgkicmgomcaa", sum := "7edf22b96e06d26250bb13d135dbdf9e1a7761a19360292f19309b38f8995d46", func := "loop.example/g00387/laws.FnExactStanzaRight", spec := "fnExactStanzaRight", inPlace := ["internal/bytealg.IndexByteString", "internal/bytealg.IndexString"], unfollowed := true, recurses := true, named := ["internal/bytealg.MaxLen"], apart := false }
def FnExactStanzaRightSaid : Prop := fnExactStanzaRightRow.holds Try.pinned (OpenSpec.ofChange fnExactStanzaRightSpec)

/-- ITS FALSE NEIGHBOUR: 'it returns false'. Refute it at one input. -/
def fnExactStanzaRightWrong : ChangeSpec := { name := "fnExactStanzaRight", fn := fun _ => fun
  | [d] => { results := [.lit (.bool false)], args := [d] }
  | _ => none }
def FnExactStanzaRightWrongFalsely : Prop := fnExactStanzaRightRow.holds Try.pinned (OpenSpec.ofChange fnExactStanzaRightWrong)

/-- 'laws.FnExactEscape': WHATEVER THE INPUT: true; the input reads as it did. -/
def fnExactEscapeSpec : ChangeSpec := { name := "fnExactEscape", fn := fun _ => fun
  | [d] => { results := [.lit (.bool true)], args := [d] }
  | _ => none }
def fnExactEscapeRow : OpenClaim := { program := "ytihjgkicmgomcaa", sum := "7edf22b96e06d26250bb13d135dbdf9e1a7761a19360292f19309b38f8995d46", func := "loop.example/g00387/laws.FnExactEscape", spec := "fnExactEscape", apart := false }
def FnExactEscapeSaid : Prop := fnExactEscapeRow.holds Try.pinned (OpenSpec.ofChange fnExactEscapeSpec)

/-- ITS FALSE NEIGHBOUR: 'it returns false'. Refute it at one input. -/
def fnExactEscapeWrong : ChangeSpec := { name := "fnExactEscape", fn := fun _ => fun
  | [d] => { results := [.lit (.bool false)], args := [d] }
  | _ => none }
def FnExactEscapeWrongFalsely : Prop := fnExactEscapeRow.holds Try.pinned (OpenSpec.ofChange fnExactEscapeWrong)

/-- 'laws.FnExactPlain': WHATEVER THE INPUT: true; the input reads as it did. -/
def fnExactPlainSpec : ChangeSpec := { name := "fnExactPlain", fn := fun _ => fun
  | [d] => { results := [.lit (.bool true)], args := [d] }
  | _ => none }
def fnExactPlainRow : OpenClaim := { program := "ytihjgkicmgomcaa", sum := "7edf22b96e06d26250bb13d135dbdf9e1a7761a19360292f19309b38f8995d46", func := "loop.example/g00387/laws.FnExactPlain", spec := "fnExactPlain", apart := false }
def FnExactPlainSaid : Prop := fnExactPlainRow.holds Try.pinned (OpenSpec.ofChange fnExactPlainSpec)

/-- ITS FALSE NEIGHBOUR: 'it returns false'. Refute it at one input. -/
def fnExactPlainWrong : ChangeSpec := { name := "fnExactPlain", fn := fun _ => fun
  | [d] => { results := [.lit (.bool false)], args := [d] }
  | _ => none }
def FnExactPlainWrongFalsely : Prop := fnExactPlainRow.holds Try.pinned (OpenSpec.ofChange fnExactPlainWrong)

/-- 'laws.FnExactReply': WHATEVER THE INPUT: true; the input reads as it did. -/
def fnExactReplySpec : ChangeSpec := { name := "fnExactReply", fn := fun _ => fun
  | [d1, d2, d3] => { results := [.lit (.bool true)], args := [d1, d2, d3] }
  | _ => none }
def fnExactReplyRow : OpenClaim := { program := "ytihjgkicmgomcaa", sum := "7edf22b96e06d26250bb13d135dbdf9e1a7761a19360292f19309b38f8995d46", func := "loop.example/g00387/laws.FnExactReply", spec := "fnExactReply", inPlace := ["internal/bytealg.IndexByteString", "internal/bytealg.IndexString"], unfollowed := true, recurses := true, named := ["internal/bytealg.MaxLen"], apart := false }
def FnExactReplySaid : Prop := fnExactReplyRow.holds Try.pinned (OpenSpec.ofChange fnExactReplySpec)

/-- ITS FALSE NEIGHBOUR: 'it returns false'. Refute it at one input. -/
def fnExactReplyWrong : ChangeSpec := { name := "fnExactReply", fn := fun _ => fun
  | [d1, d2, d3] => { results := [.lit (.bool false)], args := [d1, d2, d3] }
  | _ => none }
def FnExactReplyWrongFalsely : Prop := fnExactReplyRow.holds Try.pinned (OpenSpec.ofChange fnExactReplyWrong)

/-- 'laws.FnExactFault': WHATEVER THE INPUT: true; the input reads as it did. -/
def fnExactFaultSpec : ChangeSpec := { name := "fnExactFault", fn := fun _ => fun
  | [d1, d2] => { results := [.lit (.bool true)], args := [d1, d2] }
  | _ => none }
def fnExactFaultRow : OpenClaim := { program := "ytihjgkicmgomcaa", sum := "7edf22b96e06d26250bb13d135dbdf9e1a7761a19360292f19309b38f8995d46", func := "loop.example/g00387/laws.FnExactFault", spec := "fnExactFault", inPlace := ["internal/bytealg.IndexByteString", "internal/bytealg.IndexString"], unfollowed := true, recurses := true, named := ["internal/bytealg.MaxLen"], apart := false }
def FnExactFaultSaid : Prop := fnExactFaultRow.holds Try.pinned (OpenSpec.ofChange fnExactFaultSpec)

/-- ITS FALSE NEIGHBOUR: 'it returns false'. Refute it at one input. -/
def fnExactFaultWrong : ChangeSpec := { name := "fnExactFault", fn := fun _ => fun
  | [d1, d2] => { results := [.lit (.bool false)], args := [d1, d2] }
  | _ => none }
def FnExactFaultWrongFalsely : Prop := fnExactFaultRow.holds Try.pinned (OpenSpec.ofChange fnExactFaultWrong)

/- THE SECOND FORM. 'bulk': how many values and letters a reading holds, each counted each time it is reached (what is shared counts as often as it is met; a slice's spare places count too). A statement '..UptoSaid' is the law's where the arguments, and the package variables that the reading takes, are together of bulk at most 1048576: NARROWER than '..Said'. Prove '..Said' where nothing that the law and all that it calls make is longer than what came in: it says more and counts as full. Else prove '..UptoSaid'. A law counts once. -/
mutual
def uptoBulk {H : Type} : DataW H → Nat
  | .lit (.string bytes) => bytes.length + 1
  | .lit _ => 1
  | .nil => 1
  | .ptr d => uptoBulk d + 1
  | .slice elems spare => uptoBulkAll elems + uptoBulkAll spare + 1
  | .agg parts => uptoBulkAll parts + 1
  | .iface _ d => uptoBulk d + 1
  | .map entries => uptoBulkEntries entries + 1
  | .held _ => 1
def uptoBulkAll {H : Type} : List (DataW H) → Nat
  | [] => 0
  | d :: r => uptoBulk d + uptoBulkAll r
def uptoBulkEntries {H : Type} : List (Lit × DataW H) → Nat
  | [] => 0
  | x :: r => uptoBulkEntry x + uptoBulkEntries r
def uptoBulkEntry {H : Type} : Lit × DataW H → Nat
  | (.string bytes, d) => bytes.length + uptoBulk d + 1
  | (_, d) => uptoBulk d + 1
 end
def uptoSmall : (H : Type) → List (DataW H) → Bool := fun _ ds => decide (uptoBulkAll ds ≤ 1048576)
def OpenSpec.upto (s : _root_.Go.ChangeSpec) : _root_.Go.OpenSpec := { _root_.Go.OpenSpec.ofChange s with cond := some uptoSmall }

/-- 'laws.FnEscape', WHERE WHAT IT READS IS OF BULK AT MOST 1048576: true; the input reads as it did. -/
def fnEscapeUptoRow : OpenClaim := { program := "ytihjgkicmgomcaa", sum := "7edf22b96e06d26250bb13d135dbdf9e1a7761a19360292f19309b38f8995d46", func := "loop.example/g00387/laws.FnEscape", spec := "fnEscape", apart := false, narrowed := true }
def FnEscapeUptoSaid : Prop := fnEscapeUptoRow.holds Try.pinned (OpenSpec.upto fnEscapeSpec)

/-- 'laws.FnReply', WHERE WHAT IT READS IS OF BULK AT MOST 1048576: true; the input reads as it did. -/
def fnReplyUptoRow : OpenClaim := { program := "ytihjgkicmgomcaa", sum := "7edf22b96e06d26250bb13d135dbdf9e1a7761a19360292f19309b38f8995d46", func := "loop.example/g00387/laws.FnReply", spec := "fnReply", inPlace := ["internal/bytealg.IndexByteString", "internal/bytealg.IndexString"], unfollowed := true, recurses := true, named := ["internal/bytealg.MaxLen"], apart := false, narrowed := true }
def FnReplyUptoSaid : Prop := fnReplyUptoRow.holds Try.pinned (OpenSpec.upto fnReplySpec)

/-- 'laws.FnExactStanzaRight', WHERE WHAT IT READS IS OF BULK AT MOST 1048576: true; the input reads as it did. -/
def fnExactStanzaRightUptoRow : OpenClaim := { program := "ytihjgkicmgomcaa", sum := "7edf22b96e06d26250bb13d135dbdf9e1a7761a19360292f19309b38f8995d46", func := "loop.example/g00387/laws.FnExactStanzaRight", spec := "fnExactStanzaRight", inPlace := ["internal/bytealg.IndexByteString", "internal/bytealg.IndexString"], unfollowed := true, recurses := true, named := ["internal/bytealg.MaxLen"], apart := false, narrowed := true }
def FnExactStanzaRightUptoSaid : Prop := fnExactStanzaRightUptoRow.holds Try.pinned (OpenSpec.upto fnExactStanzaRightSpec)

/-- 'laws.FnExactEscape', WHERE WHAT IT READS IS OF BULK AT MOST 1048576: true; the input reads as it did. -/
def fnExactEscapeUptoRow : OpenClaim := { program := "ytihjgkicmgomcaa", sum := "7edf22b96e06d26250bb13d135dbdf9e1a7761a19360292f19309b38f8995d46", func := "loop.example/g00387/laws.FnExactEscape", spec := "fnExactEscape", apart := false, narrowed := true }
def FnExactEscapeUptoSaid : Prop := fnExactEscapeUptoRow.holds Try.pinned (OpenSpec.upto fnExactEscapeSpec)

/-- 'laws.FnExactPlain', WHERE WHAT IT READS IS OF BULK AT MOST 1048576: true; the input reads as it did. -/
def fnExactPlainUptoRow : OpenClaim := { program := "ytihjgkicmgomcaa", sum := "7edf22b96e06d26250bb13d135dbdf9e1a7761a19360292f19309b38f8995d46", func := "loop.example/g00387/laws.FnExactPlain", spec := "fnExactPlain", apart := false, narrowed := true }
def FnExactPlainUptoSaid : Prop := fnExactPlainUptoRow.holds Try.pinned (OpenSpec.upto fnExactPlainSpec)

/-- 'laws.FnExactReply', WHERE WHAT IT READS IS OF BULK AT MOST 1048576: true; the input reads as it did. -/
def fnExactReplyUptoRow : OpenClaim := { program := "ytihjgkicmgomcaa", sum := "7edf22b96e06d26250bb13d135dbdf9e1a7761a19360292f19309b38f8995d46", func := "loop.example/g00387/laws.FnExactReply", spec := "fnExactReply", inPlace := ["internal/bytealg.IndexByteString", "internal/bytealg.IndexString"], unfollowed := true, recurses := true, named := ["internal/bytealg.MaxLen"], apart := false, narrowed := true }
def FnExactReplyUptoSaid : Prop := fnExactReplyUptoRow.holds Try.pinned (OpenSpec.upto fnExactReplySpec)

/-- 'laws.FnExactFault', WHERE WHAT IT READS IS OF BULK AT MOST 1048576: true; the input reads as it did. -/
def fnExactFaultUptoRow : OpenClaim := { program := "ytihjgkicmgomcaa", sum := "7edf22b96e06d26250bb13d135dbdf9e1a7761a19360292f19309b38f8995d46", func := "loop.example/g00387/laws.FnExactFault", spec := "fnExactFault", inPlace := ["internal/bytealg.IndexByteString", "internal/bytealg.IndexString"], unfollowed := true, recurses := true, named := ["internal/bytealg.MaxLen"], apart := false, narrowed := true }
def FnExactFaultUptoSaid : Prop := fnExactFaultUptoRow.holds Try.pinned (OpenSpec.upto fnExactFaultSpec)

end Rows
end Go.Proofs.Ytihjgkicmgomcaa
