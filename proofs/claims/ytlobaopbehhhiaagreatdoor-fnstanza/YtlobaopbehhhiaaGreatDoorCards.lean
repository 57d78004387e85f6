/-
  DERIVED. GIVEN WITH THE SEED: THE CARDS: each row of YtlobaopbehhhiaaGreatDoorRows.lean that lists a variable, with what it lists TIED to the program's text (the seventh form; the later family's looks); each row that meets fmt, with fmt's text TOLD by the authors' own Lean function (tested against real Go, not proved from fmt's source: count such statements apart). THE CARD IS WHAT COUNTS. Prove the row's statement (the work); the ties are given (YtlobaopbehhhiaaGreatDoorTie.lean); close each card by the builder's one call (the guide's Derived/Test/ToyasCard.lean, 'card_holds'). Laid BY PROGRAM, IN A SANDBOX (cutbox-door.mjs). By AI agents, Wed Nov 11 2026. No macro, syntax, notation, axiom, sorry.
-/
import Derived.Test.YtlobaopbehhhiaaGreatDoorRows
import GoSem.ClaimSeven
namespace Go.Proofs.YtlobaopbehhhiaaGreatDoor
namespace Rows

/-- THE TIED CARD OF 'laws.FnStanza'. -/
def fnStanzaCard : Claim7 := { stood := { row := fnStanzaRow, standIns := [], harness := (true, "ed8537afeb7d76a1b9c068d5a982f8bb2f8915f190583bc0be9efa8abef0d69e"), looks := true }, kinds := [], alts := [], laidByText := true, laidKinds := [.data, .data, .data, .data, .sentinel, .sentinel, .pinned], laidTests := true, laidLooks := .later }
def FnStanzaCardSaid : Prop := Claim7.holds Tryz.pinned (.plain (OpenSpec.ofChange fnStanzaSpec)) fnStanzaCard

/-- THE TIED CARD OF 'laws.FnStream'. -/
def fnStreamCard : Claim7 := { stood := { row := fnStreamRow, standIns := [], harness := (true, "ed8537afeb7d76a1b9c068d5a982f8bb2f8915f190583bc0be9efa8abef0d69e"), looks := true }, kinds := [], alts := [], laidByText := true, laidKinds := [.data, .data, .data, .data, .sentinel, .sentinel, .pinned], laidTests := true, laidLooks := .later }
def FnStreamCardSaid : Prop := Claim7.holds Tryz.pinned (.plain (OpenSpec.ofChange fnStreamSpec)) fnStreamCard

/-- THE TIED CARD OF 'laws.FnDead'. -/
def fnDeadCard : Claim7 := { stood := { row := fnDeadRow, standIns := [], harness := (true, "ed8537afeb7d76a1b9c068d5a982f8bb2f8915f190583bc0be9efa8abef0d69e"), looks := true }, kinds := [], alts := [], laidByText := true, laidKinds := [.data, .data, .data, .data, .sentinel, .sentinel, .pinned], laidTests := true, laidLooks := .later }
def FnDeadCardSaid : Prop := Claim7.holds Tryz.pinned (.plain (OpenSpec.ofChange fnDeadSpec)) fnDeadCard

/-- THE TIED CARD OF 'laws.FnExactStanzaRead'. -/
def fnExactStanzaReadCard : Claim7 := { stood := { row := fnExactStanzaReadRow, standIns := [], harness := (true, "ed8537afeb7d76a1b9c068d5a982f8bb2f8915f190583bc0be9efa8abef0d69e"), looks := true }, kinds := [], alts := [], laidByText := true, laidKinds := [.data, .data, .data, .data, .sentinel, .sentinel, .pinned], laidTests := true, laidLooks := .later }
def FnExactStanzaReadCardSaid : Prop := Claim7.holds Tryz.pinned (.plain (OpenSpec.ofChange fnExactStanzaReadSpec)) fnExactStanzaReadCard

/-- THE TIED CARD OF 'laws.FnExactStreamFeed'. -/
def fnExactStreamFeedCard : Claim7 := { stood := { row := fnExactStreamFeedRow, standIns := [], harness := (true, "ed8537afeb7d76a1b9c068d5a982f8bb2f8915f190583bc0be9efa8abef0d69e"), looks := true }, kinds := [], alts := [], laidByText := true, laidKinds := [.data, .data, .data, .data, .sentinel, .sentinel, .pinned], laidTests := true, laidLooks := .later }
def FnExactStreamFeedCardSaid : Prop := Claim7.holds Tryz.pinned (.plain (OpenSpec.ofChange fnExactStreamFeedSpec)) fnExactStreamFeedCard

/-- THE SECOND FORM's CARD OF 'laws.FnStanza'. -/
def fnStanzaUptoCard : Claim7 := { stood := { row := fnStanzaUptoRow, standIns := [], harness := (true, "ed8537afeb7d76a1b9c068d5a982f8bb2f8915f190583bc0be9efa8abef0d69e"), looks := true }, kinds := [], alts := [], laidByText := true, laidKinds := [.data, .data, .data, .data, .sentinel, .sentinel, .pinned], laidTests := true, laidLooks := .later }
def FnStanzaUptoCardSaid : Prop := Claim7.holds Tryz.pinned (.plain (OpenSpec.upto fnStanzaSpec)) fnStanzaUptoCard

/-- THE SECOND FORM's CARD OF 'laws.FnStream'. -/
def fnStreamUptoCard : Claim7 := { stood := { row := fnStreamUptoRow, standIns := [], harness := (true, "ed8537afeb7d76a1b9c068d5a982f8bb2f8915f190583bc0be9efa8abef0d69e"), looks := true }, kinds := [], alts := [], laidByText := true, laidKinds := [.data, .data, .data, .data, .sentinel, .sentinel, .pinned], laidTests := true, laidLooks := .later }
def FnStreamUptoCardSaid : Prop := Claim7.holds Tryz.pinned (.plain (OpenSpec.upto fnStreamSpec)) fnStreamUptoCard

/-- THE SECOND FORM's CARD OF 'laws.FnDead'. -/
def fnDeadUptoCard : Claim7 := { stood := { row := fnDeadUptoRow, standIns := [], harness := (true, "ed8537afeb7d76a1b9c068d5a982f8bb2f8915f190583bc0be9efa8abef0d69e"), looks := true }, kinds := [], alts := [], laidByText := true, laidKinds := [.data, .data, .data, .data, .sentinel, .sentinel, .pinned], laidTests := true, laidLooks := .later }
def FnDeadUptoCardSaid : Prop := Claim7.holds Tryz.pinned (.plain (OpenSpec.upto fnDeadSpec)) fnDeadUptoCard

/-- THE SECOND FORM's CARD OF 'laws.FnExactStanzaRead'. -/
def fnExactStanzaReadUptoCard : Claim7 := { stood := { row := fnExactStanzaReadUptoRow, standIns := [], harness := (true, "ed8537afeb7d76a1b9c068d5a982f8bb2f8915f190583bc0be9efa8abef0d69e"), looks := true }, kinds := [], alts := [], laidByText := true, laidKinds := [.data, .data, .data, .data, .sentinel, .sentinel, .pinned], laidTests := true, laidLooks := .later }
def FnExactStanzaReadUptoCardSaid : Prop := Claim7.holds Tryz.pinned (.plain (OpenSpec.upto fnExactStanzaReadSpec)) fnExactStanzaReadUptoCard

/-- THE SECOND FORM's CARD OF 'laws.FnExactStreamFeed'. -/
def fnExactStreamFeedUptoCard : Claim7 := { stood := { row := fnExactStreamFeedUptoRow, standIns := [], harness := (true, "ed8537afeb7d76a1b9c068d5a982f8bb2f8915f190583bc0be9efa8abef0d69e"), looks := true }, kinds := [], alts := [], laidByText := true, laidKinds := [.data, .data, .data, .data, .sentinel, .sentinel, .pinned], laidTests := true, laidLooks := .later }
def FnExactStreamFeedUptoCardSaid : Prop := Claim7.holds Tryz.pinned (.plain (OpenSpec.upto fnExactStreamFeedSpec)) fnExactStreamFeedUptoCard
end Rows
end Go.Proofs.YtlobaopbehhhiaaGreatDoor
