/-
  DERIVED. GIVEN WITH THE SEED: THE CARDS: each row of YtenmdecooamaaaaDoorRows.lean that lists a variable, with what it lists TIED to the program's text (the seventh form; the later family's looks); each row that meets fmt, with fmt's text TOLD by the authors' own Lean function (tested against real Go, not proved from fmt's source: count such statements apart). THE CARD IS WHAT COUNTS. Prove the row's statement (the work); the ties are given (YtenmdecooamaaaaDoorTie.lean); close each card by the builder's one call (the guide's Derived/Test/ToyasCard.lean, 'card_holds'). Laid BY PROGRAM, IN A SANDBOX (cutbox-door.mjs). By AI agents, Wed Nov 11 2026. No macro, syntax, notation, axiom, sorry.
-/
import Derived.Test.YtenmdecooamaaaaDoorRows
import GoSem.ClaimSeven
namespace Go.Proofs.YtenmdecooamaaaaDoor
namespace Rows

/-- THE TIED CARD OF 'laws.FnKeys'. -/
def fnKeysCard : Claim7 := { stood := { row := fnKeysRow, standIns := [], harness := (true, "bea731e61a822c1c45dfa29ff2fd7be7c6d777118a0003de4d2cb5d4a06a7ec2"), looks := true }, kinds := [], alts := [], laidByText := true, laidKinds := [.data, .data, .data, .sentinel, .sentinel], laidTests := true, laidLooks := .later }
def FnKeysCardSaid : Prop := Claim7.holds Tryd.pinned (.plain (OpenSpec.ofChange fnKeysSpec)) fnKeysCard

/-- THE TIED CARD OF 'laws.FnExactFormatKey'. -/
def fnExactFormatKeyCard : Claim7 := { stood := { row := fnExactFormatKeyRow, standIns := [], harness := (true, "bea731e61a822c1c45dfa29ff2fd7be7c6d777118a0003de4d2cb5d4a06a7ec2"), looks := true }, kinds := [], alts := [], laidByText := true, laidKinds := [.data, .data, .data], laidTests := true, laidLooks := .later }
def FnExactFormatKeyCardSaid : Prop := Claim7.holds Tryd.pinned (.plain (OpenSpec.ofChange fnExactFormatKeySpec)) fnExactFormatKeyCard

/-- THE TIED CARD OF 'laws.FnExactParseKey'. -/
def fnExactParseKeyCard : Claim7 := { stood := { row := fnExactParseKeyRow, standIns := [], harness := (true, "bea731e61a822c1c45dfa29ff2fd7be7c6d777118a0003de4d2cb5d4a06a7ec2"), looks := true }, kinds := [], alts := [], laidByText := true, laidKinds := [.data, .data, .data, .sentinel, .sentinel], laidTests := true, laidLooks := .later }
def FnExactParseKeyCardSaid : Prop := Claim7.holds Tryd.pinned (.plain (OpenSpec.ofChange fnExactParseKeySpec)) fnExactParseKeyCard

/-- THE SECOND FORM's CARD OF 'laws.FnKeys'. -/
def fnKeysUptoCard : Claim7 := { stood := { row := fnKeysUptoRow, standIns := [], harness := (true, "bea731e61a822c1c45dfa29ff2fd7be7c6d777118a0003de4d2cb5d4a06a7ec2"), looks := true }, kinds := [], alts := [], laidByText := true, laidKinds := [.data, .data, .data, .sentinel, .sentinel], laidTests := true, laidLooks := .later }
def FnKeysUptoCardSaid : Prop := Claim7.holds Tryd.pinned (.plain (OpenSpec.upto fnKeysSpec)) fnKeysUptoCard

/-- THE SECOND FORM's CARD OF 'laws.FnExactFormatKey'. -/
def fnExactFormatKeyUptoCard : Claim7 := { stood := { row := fnExactFormatKeyUptoRow, standIns := [], harness := (true, "bea731e61a822c1c45dfa29ff2fd7be7c6d777118a0003de4d2cb5d4a06a7ec2"), looks := true }, kinds := [], alts := [], laidByText := true, laidKinds := [.data, .data, .data], laidTests := true, laidLooks := .later }
def FnExactFormatKeyUptoCardSaid : Prop := Claim7.holds Tryd.pinned (.plain (OpenSpec.upto fnExactFormatKeySpec)) fnExactFormatKeyUptoCard

/-- THE SECOND FORM's CARD OF 'laws.FnExactParseKey'. -/
def fnExactParseKeyUptoCard : Claim7 := { stood := { row := fnExactParseKeyUptoRow, standIns := [], harness := (true, "bea731e61a822c1c45dfa29ff2fd7be7c6d777118a0003de4d2cb5d4a06a7ec2"), looks := true }, kinds := [], alts := [], laidByText := true, laidKinds := [.data, .data, .data, .sentinel, .sentinel], laidTests := true, laidLooks := .later }
def FnExactParseKeyUptoCardSaid : Prop := Claim7.holds Tryd.pinned (.plain (OpenSpec.upto fnExactParseKeySpec)) fnExactParseKeyUptoCard
end Rows
end Go.Proofs.YtenmdecooamaaaaDoor
