/-
  No cell of these rows narrows 'for every input' (looked for: loops, veiled, ifaces, maps, wideKeys, modest, calm, conditions, laid).
  DERIVED. THE GIVEN ROWS OF THIS SEAT. 9 by the template 'for every input the law returns true; each argument reads behind the call as it read before'; 0 by the template 'total and deterministic' (their statements: YtgfpcmfcnphalaaTotals.lean).
  GIVEN WITH THE SEED: the statements are not yours to turn. If you find one false, say at which input.
  Laid BY PROGRAM, IN A SANDBOX (cutbox-rows.mjs): the forced cells as the released guide's own fill.sh prints them over the translation 9c28ce93b1f47454… (all of the seat's roots in one cut). By AI agents, Wed Nov 11 2026. No macro, syntax, notation, axiom, sorry.
-/
import Derived.Test.YtgfpcmfcnphalaaChecked
import GoSem.Claim
import GoSem.ClaimJoined
import GoSem.ClaimMapViews
import Derived.JoinedTies
import Derived.KernelRfl
namespace Go.Proofs.Ytgfpcmfcnphalaa
/- THE CELL 'sum', in the pinned program and in every row, IS THE sha256 OF THE DUMP (.gsa) THAT YtgfpcmfcnphalaaProg.lean LOADS. Nothing in Lean hashes anything: it is a label: what it is worth is what the hold of that sum in a sandbox is worth. -/
noncomputable def Try.pinned : Pinned := { name := "ytgfpcmfcnphalaa", sum := "9c28ce93b1f47454775f2a0911fe9daed12011ee851c7f2fd8452237e0eb7c6c", checked := Try.checked }
namespace Rows
def none {H : Type} : Left H := { results := [], args := [] }

/-- 'laws.FnHalf': WHATEVER THE INPUT: true; the input reads as it did. -/
def fnHalfSpec : ChangeSpec := { name := "fnHalf", fn := fun _ => fun
  | [d1, d2] => { results := [.lit (.bool true)], args := [d1, d2] }
  | _ => none }
def fnHalfRow : OpenClaim := { program := "ytgfpcmfcnphalaa", sum := "9c28ce93b1f47454775f2a0911fe9daed12011ee851c7f2fd8452237e0eb7c6c", func := "loop.example/g00387/laws.FnHalf", spec := "fnHalf", unfollowed := true, recurses := true, apart := false }
def FnHalfSaid : Prop := fnHalfRow.holds Try.pinned (OpenSpec.ofChange fnHalfSpec)

/-- ITS FALSE NEIGHBOUR: 'it returns false'. Refute it at one input. -/
def fnHalfWrong : ChangeSpec := { name := "fnHalf", fn := fun _ => fun
  | [d1, d2] => { results := [.lit (.bool false)], args := [d1, d2] }
  | _ => none }
def FnHalfWrongFalsely : Prop := fnHalfRow.holds Try.pinned (OpenSpec.ofChange fnHalfWrong)

/-- 'laws.FnTwo': WHATEVER THE INPUT: true; the input reads as it did. -/
def fnTwoSpec : ChangeSpec := { name := "fnTwo", fn := fun _ => fun
  | [d] => { results := [.lit (.bool true)], args := [d] }
  | _ => none }
def fnTwoRow : OpenClaim := { program := "ytgfpcmfcnphalaa", sum := "9c28ce93b1f47454775f2a0911fe9daed12011ee851c7f2fd8452237e0eb7c6c", func := "loop.example/g00387/laws.FnTwo", spec := "fnTwo", unfollowed := true, recurses := true, apart := false }
def FnTwoSaid : Prop := fnTwoRow.holds Try.pinned (OpenSpec.ofChange fnTwoSpec)

/-- ITS FALSE NEIGHBOUR: 'it returns false'. Refute it at one input. -/
def fnTwoWrong : ChangeSpec := { name := "fnTwo", fn := fun _ => fun
  | [d] => { results := [.lit (.bool false)], args := [d] }
  | _ => none }
def FnTwoWrongFalsely : Prop := fnTwoRow.holds Try.pinned (OpenSpec.ofChange fnTwoWrong)

/-- 'laws.FnShow': WHATEVER THE INPUT: true; the input reads as it did. -/
def fnShowSpec : ChangeSpec := { name := "fnShow", fn := fun _ => fun
  | [d] => { results := [.lit (.bool true)], args := [d] }
  | _ => none }
def fnShowRow : OpenClaim := { program := "ytgfpcmfcnphalaa", sum := "9c28ce93b1f47454775f2a0911fe9daed12011ee851c7f2fd8452237e0eb7c6c", func := "loop.example/g00387/laws.FnShow", spec := "fnShow", unfollowed := true, recurses := true, apart := false }
def FnShowSaid : Prop := fnShowRow.holds Try.pinned (OpenSpec.ofChange fnShowSpec)

/-- ITS FALSE NEIGHBOUR: 'it returns false'. Refute it at one input. -/
def fnShowWrong : ChangeSpec := { name := "fnShow", fn := fun _ => fun
  | [d] => { results := [.lit (.bool false)], args := [d] }
  | _ => none }
def FnShowWrongFalsely : Prop := fnShowRow.holds Try.pinned (OpenSpec.ofChange fnShowWrong)

/-- 'laws.FnExactHalfRight': WHATEVER THE INPUT: true; the input reads as it did. -/
def fnExactHalfRightSpec : ChangeSpec := { name := "fnExactHalfRight", fn := fun _ => fun
  | [d] => { results := [.lit (.bool true)], args := [d] }
  | _ => none }
def fnExactHalfRightRow : OpenClaim := { program := "ytgfpcmfcnphalaa", sum := "9c28ce93b1f47454775f2a0911fe9daed12011ee851c7f2fd8452237e0eb7c6c", func := "loop.example/g00387/laws.FnExactHalfRight", spec := "fnExactHalfRight", apart := false }
def FnExactHalfRightSaid : Prop := fnExactHalfRightRow.holds Try.pinned (OpenSpec.ofChange fnExactHalfRightSpec)

/-- ITS FALSE NEIGHBOUR: 'it returns false'. Refute it at one input. -/
def fnExactHalfRightWrong : ChangeSpec := { name := "fnExactHalfRight", fn := fun _ => fun
  | [d] => { results := [.lit (.bool false)], args := [d] }
  | _ => none }
def FnExactHalfRightWrongFalsely : Prop := fnExactHalfRightRow.holds Try.pinned (OpenSpec.ofChange fnExactHalfRightWrong)

/-- 'laws.FnExactHalfSay': WHATEVER THE INPUT: true; the input reads as it did. -/
def fnExactHalfSaySpec : ChangeSpec := { name := "fnExactHalfSay", fn := fun _ => fun
  | [d1, d2] => { results := [.lit (.bool true)], args := [d1, d2] }
  | _ => none }
def fnExactHalfSayRow : OpenClaim := { program := "ytgfpcmfcnphalaa", sum := "9c28ce93b1f47454775f2a0911fe9daed12011ee851c7f2fd8452237e0eb7c6c", func := "loop.example/g00387/laws.FnExactHalfSay", spec := "fnExactHalfSay", unfollowed := true, recurses := true, apart := false }
def FnExactHalfSaySaid : Prop := fnExactHalfSayRow.holds Try.pinned (OpenSpec.ofChange fnExactHalfSaySpec)

/-- ITS FALSE NEIGHBOUR: 'it returns false'. Refute it at one input. -/
def fnExactHalfSayWrong : ChangeSpec := { name := "fnExactHalfSay", fn := fun _ => fun
  | [d1, d2] => { results := [.lit (.bool false)], args := [d1, d2] }
  | _ => none }
def FnExactHalfSayWrongFalsely : Prop := fnExactHalfSayRow.holds Try.pinned (OpenSpec.ofChange fnExactHalfSayWrong)

/-- 'laws.FnExactHalfHear': WHATEVER THE INPUT: true; the input reads as it did. -/
def fnExactHalfHearSpec : ChangeSpec := { name := "fnExactHalfHear", fn := fun _ => fun
  | [d1, d2] => { results := [.lit (.bool true)], args := [d1, d2] }
  | _ => none }
def fnExactHalfHearRow : OpenClaim := { program := "ytgfpcmfcnphalaa", sum := "9c28ce93b1f47454775f2a0911fe9daed12011ee851c7f2fd8452237e0eb7c6c", func := "loop.example/g00387/laws.FnExactHalfHear", spec := "fnExactHalfHear", apart := false }
def FnExactHalfHearSaid : Prop := fnExactHalfHearRow.holds Try.pinned (OpenSpec.ofChange fnExactHalfHearSpec)

/-- ITS FALSE NEIGHBOUR: 'it returns false'. Refute it at one input. -/
def fnExactHalfHearWrong : ChangeSpec := { name := "fnExactHalfHear", fn := fun _ => fun
  | [d1, d2] => { results := [.lit (.bool false)], args := [d1, d2] }
  | _ => none }
def FnExactHalfHearWrongFalsely : Prop := fnExactHalfHearRow.holds Try.pinned (OpenSpec.ofChange fnExactHalfHearWrong)

/-- 'laws.FnExactHalfShow': WHATEVER THE INPUT: true; the input reads as it did. -/
def fnExactHalfShowSpec : ChangeSpec := { name := "fnExactHalfShow", fn := fun _ => fun
  | [d] => { results := [.lit (.bool true)], args := [d] }
  | _ => none }
def fnExactHalfShowRow : OpenClaim := { program := "ytgfpcmfcnphalaa", sum := "9c28ce93b1f47454775f2a0911fe9daed12011ee851c7f2fd8452237e0eb7c6c", func := "loop.example/g00387/laws.FnExactHalfShow", spec := "fnExactHalfShow", apart := false }
def FnExactHalfShowSaid : Prop := fnExactHalfShowRow.holds Try.pinned (OpenSpec.ofChange fnExactHalfShowSpec)

/-- ITS FALSE NEIGHBOUR: 'it returns false'. Refute it at one input. -/
def fnExactHalfShowWrong : ChangeSpec := { name := "fnExactHalfShow", fn := fun _ => fun
  | [d] => { results := [.lit (.bool false)], args := [d] }
  | _ => none }
def FnExactHalfShowWrongFalsely : Prop := fnExactHalfShowRow.holds Try.pinned (OpenSpec.ofChange fnExactHalfShowWrong)

/-- 'laws.FnExactHalfName': WHATEVER THE INPUT: true; the input reads as it did. -/
def fnExactHalfNameSpec : ChangeSpec := { name := "fnExactHalfName", fn := fun _ => fun
  | [d] => { results := [.lit (.bool true)], args := [d] }
  | _ => none }
def fnExactHalfNameRow : OpenClaim := { program := "ytgfpcmfcnphalaa", sum := "9c28ce93b1f47454775f2a0911fe9daed12011ee851c7f2fd8452237e0eb7c6c", func := "loop.example/g00387/laws.FnExactHalfName", spec := "fnExactHalfName", apart := false }
def FnExactHalfNameSaid : Prop := fnExactHalfNameRow.holds Try.pinned (OpenSpec.ofChange fnExactHalfNameSpec)

/-- ITS FALSE NEIGHBOUR: 'it returns false'. Refute it at one input. -/
def fnExactHalfNameWrong : ChangeSpec := { name := "fnExactHalfName", fn := fun _ => fun
  | [d] => { results := [.lit (.bool false)], args := [d] }
  | _ => none }
def FnExactHalfNameWrongFalsely : Prop := fnExactHalfNameRow.holds Try.pinned (OpenSpec.ofChange fnExactHalfNameWrong)

/-- 'laws.FnExactHalfDrop': WHATEVER THE INPUT: true; the input reads as it did. -/
def fnExactHalfDropSpec : ChangeSpec := { name := "fnExactHalfDrop", fn := fun _ => fun
  | [d] => { results := [.lit (.bool true)], args := [d] }
  | _ => none }
def fnExactHalfDropRow : OpenClaim := { program := "ytgfpcmfcnphalaa", sum := "9c28ce93b1f47454775f2a0911fe9daed12011ee851c7f2fd8452237e0eb7c6c", func := "loop.example/g00387/laws.FnExactHalfDrop", spec := "fnExactHalfDrop", unfollowed := true, recurses := true, apart := false }
def FnExactHalfDropSaid : Prop := fnExactHalfDropRow.holds Try.pinned (OpenSpec.ofChange fnExactHalfDropSpec)

/-- ITS FALSE NEIGHBOUR: 'it returns false'. Refute it at one input. -/
def fnExactHalfDropWrong : ChangeSpec := { name := "fnExactHalfDrop", fn := fun _ => fun
  | [d] => { results := [.lit (.bool false)], args := [d] }
  | _ => none }
def FnExactHalfDropWrongFalsely : Prop := fnExactHalfDropRow.holds Try.pinned (OpenSpec.ofChange fnExactHalfDropWrong)

/- THE SECOND FORM. 'bulk': how many values and letters a reading holds, each counted each time it is reached (what is shared counts as often as it is met; a slice's spare places count too). A statement '..UptoSaid' is the law's where the arguments, and the package variables that the reading takes, are together of bulk at most 1048576: NARROWER than '..Said'. Prove '..Said' where nothing that the law and all that it calls make is longer than what came in: it says more and counts as full. Else prove '..UptoSaid'. A law counts once. -/
mutual
def uptoBulk {H : Type} : DataW H → Nat
  | .lit (.string bytes) => bytes.length + 1
  | .lit _ => 1
  | .nil => 1
  | .ptr d => uptoBulk d + 1
  | .slice elems spare => uptoBulkAll elems + uptoBulkAll spare + 1
  | .agg parts => uptoBulkAll parts + 1
  | .iface _ d => uptoBulk d + 1
  | .map entries => uptoBulkEntries entries + 1
  | .held _ => 1
def uptoBulkAll {H : Type} : List (DataW H) → Nat
  | [] => 0
  | d :: r => uptoBulk d + uptoBulkAll r
def uptoBulkEntries {H : Type} : List (Lit × DataW H) → Nat
  | [] => 0
  | x :: r => uptoBulkEntry x + uptoBulkEntries r
def uptoBulkEntry {H : Type} : Lit × DataW H → Nat
  | (.string bytes, d) => bytes.length + uptoBulk d + 1
  | (_, d) => uptoBulk d + 1
 end
def uptoSmall : (H : Type) → List (DataW H) → Bool := fun _ ds => decide (uptoBulkAll ds ≤ 1048576)
def OpenSpec.upto (s : _root_.Go.ChangeSpec) : _root_.Go.OpenSpec := { _root_.Go.OpenSpec.ofChange s with cond := some uptoSmall }

/-- 'laws.FnHalf', WHERE WHAT IT READS IS OF BULK AT MOST 1048576: true; the input reads as it did. -/
def fnHalfUptoRow : OpenClaim := { program := "ytgfpcmfcnphalaa", sum := "9c28ce93b1f47454775f2a0911fe9daed12011ee851c7f2fd8452237e0eb7c6c", func := "loop.example/g00387/laws.FnHalf", spec := "fnHalf", unfollowed := true, recurses := true, apart := false, narrowed := true }
def FnHalfUptoSaid : Prop := fnHalfUptoRow.holds Try.pinned (OpenSpec.upto fnHalfSpec)

/-- 'laws.FnTwo', WHERE WHAT IT READS IS OF BULK AT MOST 1048576: true; the input reads as it did. -/
def fnTwoUptoRow : OpenClaim := { program := "ytgfpcmfcnphalaa", sum := "9c28ce93b1f47454775f2a0911fe9daed12011ee851c7f2fd8452237e0eb7c6c", func := "loop.example/g00387/laws.FnTwo", spec := "fnTwo", unfollowed := true, recurses := true, apart := false, narrowed := true }
def FnTwoUptoSaid : Prop := fnTwoUptoRow.holds Try.pinned (OpenSpec.upto fnTwoSpec)

/-- 'laws.FnShow', WHERE WHAT IT READS IS OF BULK AT MOST 1048576: true; the input reads as it did. -/
def fnShowUptoRow : OpenClaim := { program := "ytgfpcmfcnphalaa", sum := "9c28ce93b1f47454775f2a0911fe9daed12011ee851c7f2fd8452237e0eb7c6c", func := "loop.example/g00387/laws.FnShow", spec := "fnShow", unfollowed := true, recurses := true, apart := false, narrowed := true }
def FnShowUptoSaid : Prop := fnShowUptoRow.holds Try.pinned (OpenSpec.upto fnShowSpec)

/-- 'laws.FnExactHalfRight', WHERE WHAT IT READS IS OF BULK AT MOST 1048576: true; the input reads as it did. -/
def fnExactHalfRightUptoRow : OpenClaim := { program := "ytgfpcmfcnphalaa", sum := "9c28ce93b1f47454775f2a0911fe9daed12011ee851c7f2fd8452237e0eb7c6c", func := "loop.example/g00387/laws.FnExactHalfRight", spec := "fnExactHalfRight", apart := false, narrowed := true }
def FnExactHalfRightUptoSaid : Prop := fnExactHalfRightUptoRow.holds Try.pinned (OpenSpec.upto fnExactHalfRightSpec)

/-- 'laws.FnExactHalfSay', WHERE WHAT IT READS IS OF BULK AT MOST 1048576: true; the input reads as it did. -/
def fnExactHalfSayUptoRow : OpenClaim := { program := "ytgfpcmfcnphalaa", sum := "9c28ce93b1f47454775f2a0911fe9daed12011ee851c7f2fd8452237e0eb7c6c", func := "loop.example/g00387/laws.FnExactHalfSay", spec := "fnExactHalfSay", unfollowed := true, recurses := true, apart := false, narrowed := true }
def FnExactHalfSayUptoSaid : Prop := fnExactHalfSayUptoRow.holds Try.pinned (OpenSpec.upto fnExactHalfSaySpec)

/-- 'laws.FnExactHalfHear', WHERE WHAT IT READS IS OF BULK AT MOST 1048576: true; the input reads as it did. -/
def fnExactHalfHearUptoRow : OpenClaim := { program := "ytgfpcmfcnphalaa", sum := "9c28ce93b1f47454775f2a0911fe9daed12011ee851c7f2fd8452237e0eb7c6c", func := "loop.example/g00387/laws.FnExactHalfHear", spec := "fnExactHalfHear", apart := false, narrowed := true }
def FnExactHalfHearUptoSaid : Prop := fnExactHalfHearUptoRow.holds Try.pinned (OpenSpec.upto fnExactHalfHearSpec)

/-- 'laws.FnExactHalfShow', WHERE WHAT IT READS IS OF BULK AT MOST 1048576: true; the input reads as it did. -/
def fnExactHalfShowUptoRow : OpenClaim := { program := "ytgfpcmfcnphalaa", sum := "9c28ce93b1f47454775f2a0911fe9daed12011ee851c7f2fd8452237e0eb7c6c", func := "loop.example/g00387/laws.FnExactHalfShow", spec := "fnExactHalfShow", apart := false, narrowed := true }
def FnExactHalfShowUptoSaid : Prop := fnExactHalfShowUptoRow.holds Try.pinned (OpenSpec.upto fnExactHalfShowSpec)

/-- 'laws.FnExactHalfName', WHERE WHAT IT READS IS OF BULK AT MOST 1048576: true; the input reads as it did. -/
def fnExactHalfNameUptoRow : OpenClaim := { program := "ytgfpcmfcnphalaa", sum := "9c28ce93b1f47454775f2a0911fe9daed12011ee851c7f2fd8452237e0eb7c6c", func := "loop.example/g00387/laws.FnExactHalfName", spec := "fnExactHalfName", apart := false, narrowed := true }
def FnExactHalfNameUptoSaid : Prop := fnExactHalfNameUptoRow.holds Try.pinned (OpenSpec.upto fnExactHalfNameSpec)

/-- 'laws.FnExactHalfDrop', WHERE WHAT IT READS IS OF BULK AT MOST 1048576: true; the input reads as it did. -/
def fnExactHalfDropUptoRow : OpenClaim := { program := "ytgfpcmfcnphalaa", sum := "9c28ce93b1f47454775f2a0911fe9daed12011ee851c7f2fd8452237e0eb7c6c", func := "loop.example/g00387/laws.FnExactHalfDrop", spec := "fnExactHalfDrop", unfollowed := true, recurses := true, apart := false, narrowed := true }
def FnExactHalfDropUptoSaid : Prop := fnExactHalfDropUptoRow.holds Try.pinned (OpenSpec.upto fnExactHalfDropSpec)

end Rows
end Go.Proofs.Ytgfpcmfcnphalaa
