/-
  DERIVED. GIVEN WITH THE SEED: THE CARDS: each row of YtgcfognljkebjaaGreatDoorRows.lean that lists a variable, with what it lists TIED to the program's text (the seventh form; the later family's looks); each row that meets fmt, with fmt's text TOLD by the authors' own Lean function (tested against real Go, not proved from fmt's source: count such statements apart). THE CARD IS WHAT COUNTS. Prove the row's statement (the work); the ties are given (YtgcfognljkebjaaGreatDoorTie.lean); close each card by the builder's one call (the guide's Derived/Test/ToyasCard.lean, 'card_holds'). Laid BY PROGRAM, IN A SANDBOX (cutbox-door.mjs). By AI agents, Wed Nov 11 2026. No macro, syntax, notation, axiom, sorry.
-/
import Derived.Test.YtgcfognljkebjaaGreatDoorRows
import GoSem.ClaimSeven
namespace Go.Proofs.YtgcfognljkebjaaGreatDoor
namespace Rows

/-- THE TIED CARD OF 'laws.FnExactStreamFeed'. -/
def fnExactStreamFeedCard : Claim7 := { stood := { row := fnExactStreamFeedRow, standIns := [], harness := (true, "e99605ce81177da7da00ac62e49e777d45b20d9bedb78824586e8c687d95d917"), looks := true }, kinds := [], alts := [], laidByText := true, laidKinds := [.data, .data, .data, .data, .sentinel, .sentinel, .pinned], laidTests := true, laidLooks := .later }
def FnExactStreamFeedCardSaid : Prop := Claim7.holds Tryz.pinned (.plain (OpenSpec.ofChange fnExactStreamFeedSpec)) fnExactStreamFeedCard

/-- THE TIED CARD OF 'laws.FnDead'. -/
def fnDeadCard : Claim7 := { stood := { row := fnDeadRow, standIns := [], harness := (true, "e99605ce81177da7da00ac62e49e777d45b20d9bedb78824586e8c687d95d917"), looks := true }, kinds := [], alts := [], laidByText := true, laidKinds := [.data, .data, .data, .data, .sentinel, .sentinel, .pinned], laidTests := true, laidLooks := .later }
def FnDeadCardSaid : Prop := Claim7.holds Tryz.pinned (.plain (OpenSpec.ofChange fnDeadSpec)) fnDeadCard

/-- THE TIED CARD OF 'laws.FnStream'. -/
def fnStreamCard : Claim7 := { stood := { row := fnStreamRow, standIns := [], harness := (true, "e99605ce81177da7da00ac62e49e777d45b20d9bedb78824586e8c687d95d917"), looks := true }, kinds := [], alts := [], laidByText := true, laidKinds := [.data, .data, .data, .data, .sentinel, .sentinel, .pinned], laidTests := true, laidLooks := .later }
def FnStreamCardSaid : Prop := Claim7.holds Tryz.pinned (.plain (OpenSpec.ofChange fnStreamSpec)) fnStreamCard

/-- THE SECOND FORM's CARD OF 'laws.FnExactStreamFeed'. -/
def fnExactStreamFeedUptoCard : Claim7 := { stood := { row := fnExactStreamFeedUptoRow, standIns := [], harness := (true, "e99605ce81177da7da00ac62e49e777d45b20d9bedb78824586e8c687d95d917"), looks := true }, kinds := [], alts := [], laidByText := true, laidKinds := [.data, .data, .data, .data, .sentinel, .sentinel, .pinned], laidTests := true, laidLooks := .later }
def FnExactStreamFeedUptoCardSaid : Prop := Claim7.holds Tryz.pinned (.plain (OpenSpec.upto fnExactStreamFeedSpec)) fnExactStreamFeedUptoCard

/-- THE SECOND FORM's CARD OF 'laws.FnDead'. -/
def fnDeadUptoCard : Claim7 := { stood := { row := fnDeadUptoRow, standIns := [], harness := (true, "e99605ce81177da7da00ac62e49e777d45b20d9bedb78824586e8c687d95d917"), looks := true }, kinds := [], alts := [], laidByText := true, laidKinds := [.data, .data, .data, .data, .sentinel, .sentinel, .pinned], laidTests := true, laidLooks := .later }
def FnDeadUptoCardSaid : Prop := Claim7.holds Tryz.pinned (.plain (OpenSpec.upto fnDeadSpec)) fnDeadUptoCard

/-- THE SECOND FORM's CARD OF 'laws.FnStream'. -/
def fnStreamUptoCard : Claim7 := { stood := { row := fnStreamUptoRow, standIns := [], harness := (true, "e99605ce81177da7da00ac62e49e777d45b20d9bedb78824586e8c687d95d917"), looks := true }, kinds := [], alts := [], laidByText := true, laidKinds := [.data, .data, .data, .data, .sentinel, .sentinel, .pinned], laidTests := true, laidLooks := .later }
def FnStreamUptoCardSaid : Prop := Claim7.holds Tryz.pinned (.plain (OpenSpec.upto fnStreamSpec)) fnStreamUptoCard
end Rows
end Go.Proofs.YtgcfognljkebjaaGreatDoor
