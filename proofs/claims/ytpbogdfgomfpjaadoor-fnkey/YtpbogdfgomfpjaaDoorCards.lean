/-
  DERIVED. GIVEN WITH THE SEED: THE CARDS: each row of YtpbogdfgomfpjaaDoorRows.lean that lists a variable, with what it lists TIED to the program's text (the seventh form; the later family's looks); each row that meets fmt, with fmt's text TOLD by the authors' own Lean function (tested against real Go, not proved from fmt's source: count such statements apart). THE CARD IS WHAT COUNTS. Prove the row's statement (the work); the ties are given (YtpbogdfgomfpjaaDoorTie.lean); close each card by the builder's one call (the guide's Derived/Test/ToyasCard.lean, 'card_holds'). Laid BY PROGRAM, IN A SANDBOX (cutbox-door.mjs). By AI agents, Wed Nov 11 2026. No macro, syntax, notation, axiom, sorry.
-/
import Derived.Test.YtpbogdfgomfpjaaDoorRows
import GoSem.ClaimSeven
namespace Go.Proofs.YtpbogdfgomfpjaaDoor
namespace Rows

/-- THE TIED CARD OF 'laws.FnKey'. -/
def fnKeyCard : Claim7 := { stood := { row := fnKeyRow, standIns := [], harness := (true, "1d166d379aa1d67c9b0ef8b027383c3b8e5acfeb1d41ca248388c4713002cef0"), looks := true }, kinds := [], alts := [], laidByText := true, laidKinds := [.data, .data, .data, .data, .data], laidTests := true, laidLooks := .later }
def FnKeyCardSaid : Prop := Claim7.holds Tryd.pinned (.plain (OpenSpec.ofChange fnKeySpec)) fnKeyCard

/-- THE TIED CARD OF 'laws.FnDialback'. -/
def fnDialbackCard : Claim7 := { stood := { row := fnDialbackRow, standIns := [], harness := (true, "1d166d379aa1d67c9b0ef8b027383c3b8e5acfeb1d41ca248388c4713002cef0"), looks := true }, kinds := [], alts := [], laidByText := true, laidKinds := [.sentinel, .sentinel, .sentinel, .sentinel], laidTests := true, laidLooks := .later }
def FnDialbackCardSaid : Prop := Claim7.holds Tryd.pinned (.plain (OpenSpec.ofChange fnDialbackSpec)) fnDialbackCard

/-- THE TIED CARD OF 'laws.FnExactDbKey'. -/
def fnExactDbKeyCard : Claim7 := { stood := { row := fnExactDbKeyRow, standIns := [], harness := (true, "1d166d379aa1d67c9b0ef8b027383c3b8e5acfeb1d41ca248388c4713002cef0"), looks := true }, kinds := [], alts := [], laidByText := true, laidKinds := [.data, .data, .data, .data, .data], laidTests := true, laidLooks := .later }
def FnExactDbKeyCardSaid : Prop := Claim7.holds Tryd.pinned (.plain (OpenSpec.ofChange fnExactDbKeySpec)) fnExactDbKeyCard

/-- THE TIED CARD OF 'laws.FnExactDbAnswer'. -/
def fnExactDbAnswerCard : Claim7 := { stood := { row := fnExactDbAnswerRow, standIns := [], harness := (true, "1d166d379aa1d67c9b0ef8b027383c3b8e5acfeb1d41ca248388c4713002cef0"), looks := true }, kinds := [], alts := [], laidByText := true, laidKinds := [.data, .data, .data, .data, .data], laidTests := true, laidLooks := .later }
def FnExactDbAnswerCardSaid : Prop := Claim7.holds Tryd.pinned (.plain (OpenSpec.ofChange fnExactDbAnswerSpec)) fnExactDbAnswerCard

/-- THE TIED CARD OF 'laws.FnExactDbOpen'. -/
def fnExactDbOpenCard : Claim7 := { stood := { row := fnExactDbOpenRow, standIns := [], harness := (true, "1d166d379aa1d67c9b0ef8b027383c3b8e5acfeb1d41ca248388c4713002cef0"), looks := true }, kinds := [], alts := [], laidByText := true, laidKinds := [.sentinel, .sentinel, .sentinel, .sentinel], laidTests := true, laidLooks := .later }
def FnExactDbOpenCardSaid : Prop := Claim7.holds Tryd.pinned (.plain (OpenSpec.ofChange fnExactDbOpenSpec)) fnExactDbOpenCard

/-- THE TIED CARD OF 'laws.FnExactDbResult'. -/
def fnExactDbResultCard : Claim7 := { stood := { row := fnExactDbResultRow, standIns := [], harness := (true, "1d166d379aa1d67c9b0ef8b027383c3b8e5acfeb1d41ca248388c4713002cef0"), looks := true }, kinds := [], alts := [], laidByText := true, laidKinds := [.sentinel, .sentinel, .sentinel, .sentinel], laidTests := true, laidLooks := .later }
def FnExactDbResultCardSaid : Prop := Claim7.holds Tryd.pinned (.plain (OpenSpec.ofChange fnExactDbResultSpec)) fnExactDbResultCard

/-- THE TIED CARD OF 'laws.FnExactDbVerified'. -/
def fnExactDbVerifiedCard : Claim7 := { stood := { row := fnExactDbVerifiedRow, standIns := [], harness := (true, "1d166d379aa1d67c9b0ef8b027383c3b8e5acfeb1d41ca248388c4713002cef0"), looks := true }, kinds := [], alts := [], laidByText := true, laidKinds := [.sentinel, .sentinel, .sentinel, .sentinel], laidTests := true, laidLooks := .later }
def FnExactDbVerifiedCardSaid : Prop := Claim7.holds Tryd.pinned (.plain (OpenSpec.ofChange fnExactDbVerifiedSpec)) fnExactDbVerifiedCard

/-- THE SECOND FORM's CARD OF 'laws.FnKey'. -/
def fnKeyUptoCard : Claim7 := { stood := { row := fnKeyUptoRow, standIns := [], harness := (true, "1d166d379aa1d67c9b0ef8b027383c3b8e5acfeb1d41ca248388c4713002cef0"), looks := true }, kinds := [], alts := [], laidByText := true, laidKinds := [.data, .data, .data, .data, .data], laidTests := true, laidLooks := .later }
def FnKeyUptoCardSaid : Prop := Claim7.holds Tryd.pinned (.plain (OpenSpec.upto fnKeySpec)) fnKeyUptoCard

/-- THE SECOND FORM's CARD OF 'laws.FnDialback'. -/
def fnDialbackUptoCard : Claim7 := { stood := { row := fnDialbackUptoRow, standIns := [], harness := (true, "1d166d379aa1d67c9b0ef8b027383c3b8e5acfeb1d41ca248388c4713002cef0"), looks := true }, kinds := [], alts := [], laidByText := true, laidKinds := [.sentinel, .sentinel, .sentinel, .sentinel], laidTests := true, laidLooks := .later }
def FnDialbackUptoCardSaid : Prop := Claim7.holds Tryd.pinned (.plain (OpenSpec.upto fnDialbackSpec)) fnDialbackUptoCard

/-- THE SECOND FORM's CARD OF 'laws.FnExactDbKey'. -/
def fnExactDbKeyUptoCard : Claim7 := { stood := { row := fnExactDbKeyUptoRow, standIns := [], harness := (true, "1d166d379aa1d67c9b0ef8b027383c3b8e5acfeb1d41ca248388c4713002cef0"), looks := true }, kinds := [], alts := [], laidByText := true, laidKinds := [.data, .data, .data, .data, .data], laidTests := true, laidLooks := .later }
def FnExactDbKeyUptoCardSaid : Prop := Claim7.holds Tryd.pinned (.plain (OpenSpec.upto fnExactDbKeySpec)) fnExactDbKeyUptoCard

/-- THE SECOND FORM's CARD OF 'laws.FnExactDbAnswer'. -/
def fnExactDbAnswerUptoCard : Claim7 := { stood := { row := fnExactDbAnswerUptoRow, standIns := [], harness := (true, "1d166d379aa1d67c9b0ef8b027383c3b8e5acfeb1d41ca248388c4713002cef0"), looks := true }, kinds := [], alts := [], laidByText := true, laidKinds := [.data, .data, .data, .data, .data], laidTests := true, laidLooks := .later }
def FnExactDbAnswerUptoCardSaid : Prop := Claim7.holds Tryd.pinned (.plain (OpenSpec.upto fnExactDbAnswerSpec)) fnExactDbAnswerUptoCard

/-- THE SECOND FORM's CARD OF 'laws.FnExactDbOpen'. -/
def fnExactDbOpenUptoCard : Claim7 := { stood := { row := fnExactDbOpenUptoRow, standIns := [], harness := (true, "1d166d379aa1d67c9b0ef8b027383c3b8e5acfeb1d41ca248388c4713002cef0"), looks := true }, kinds := [], alts := [], laidByText := true, laidKinds := [.sentinel, .sentinel, .sentinel, .sentinel], laidTests := true, laidLooks := .later }
def FnExactDbOpenUptoCardSaid : Prop := Claim7.holds Tryd.pinned (.plain (OpenSpec.upto fnExactDbOpenSpec)) fnExactDbOpenUptoCard

/-- THE SECOND FORM's CARD OF 'laws.FnExactDbResult'. -/
def fnExactDbResultUptoCard : Claim7 := { stood := { row := fnExactDbResultUptoRow, standIns := [], harness := (true, "1d166d379aa1d67c9b0ef8b027383c3b8e5acfeb1d41ca248388c4713002cef0"), looks := true }, kinds := [], alts := [], laidByText := true, laidKinds := [.sentinel, .sentinel, .sentinel, .sentinel], laidTests := true, laidLooks := .later }
def FnExactDbResultUptoCardSaid : Prop := Claim7.holds Tryd.pinned (.plain (OpenSpec.upto fnExactDbResultSpec)) fnExactDbResultUptoCard

/-- THE SECOND FORM's CARD OF 'laws.FnExactDbVerified'. -/
def fnExactDbVerifiedUptoCard : Claim7 := { stood := { row := fnExactDbVerifiedUptoRow, standIns := [], harness := (true, "1d166d379aa1d67c9b0ef8b027383c3b8e5acfeb1d41ca248388c4713002cef0"), looks := true }, kinds := [], alts := [], laidByText := true, laidKinds := [.sentinel, .sentinel, .sentinel, .sentinel], laidTests := true, laidLooks := .later }
def FnExactDbVerifiedUptoCardSaid : Prop := Claim7.holds Tryd.pinned (.plain (OpenSpec.upto fnExactDbVerifiedSpec)) fnExactDbVerifiedUptoCard
end Rows
end Go.Proofs.YtpbogdfgomfpjaaDoor
