/-
  DERIVED. GIVEN WITH THE SEED: THE CARDS: each row of YtihjgkicmgomcaaDoorRows.lean that lists a variable, with what it lists TIED to the program's text (the seventh form; the later family's looks); each row that meets fmt, with fmt's text TOLD by the authors' own Lean function (tested against real Go, not proved from fmt's source: count such statements apart). THE CARD IS WHAT COUNTS. Prove the row's statement (the work); the ties are given (YtihjgkicmgomcaaDoorTie.lean); close each card by the builder's one call (the guide's Derived/Test/ToyasCard.lean, 'card_holds'). Laid BY PROGRAM, IN A SANDBOX (cutbox-door.mjs). By AI agents, Wed Nov 11 2026. No macro, syntax, notation, axiom, sorry.
-/
import Derived.Test.YtihjgkicmgomcaaDoorRows
import GoSem.ClaimSeven
namespace Go.Proofs.YtihjgkicmgomcaaDoor
namespace Rows

/-- THE TIED CARD OF 'laws.FnExactStanzaText'. -/
def fnExactStanzaTextCard : Claim7 := { stood := { row := fnExactStanzaTextRow, standIns := [], harness := (true, "f670f751fcb6697bfb8b613b8dee59373d5f695ebc391e1f87c2b3be59ca0f15"), looks := false }, kinds := [], alts := [], laidByText := true, laidKinds := [.data, .data, .data], laidTests := true, laidLooks := .later }
def FnExactStanzaTextCardSaid : Prop := Claim7.holds Tryd.pinned (.plain (OpenSpec.ofChange fnExactStanzaTextSpec)) fnExactStanzaTextCard

/-- THE SECOND FORM's CARD OF 'laws.FnExactStanzaText'. -/
def fnExactStanzaTextUptoCard : Claim7 := { stood := { row := fnExactStanzaTextUptoRow, standIns := [], harness := (true, "f670f751fcb6697bfb8b613b8dee59373d5f695ebc391e1f87c2b3be59ca0f15"), looks := false }, kinds := [], alts := [], laidByText := true, laidKinds := [.data, .data, .data], laidTests := true, laidLooks := .later }
def FnExactStanzaTextUptoCardSaid : Prop := Claim7.holds Tryd.pinned (.plain (OpenSpec.upto fnExactStanzaTextSpec)) fnExactStanzaTextUptoCard
end Rows
end Go.Proofs.YtihjgkicmgomcaaDoor
