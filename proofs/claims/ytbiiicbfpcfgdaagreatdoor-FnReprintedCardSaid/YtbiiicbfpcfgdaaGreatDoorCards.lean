/-
  DERIVED. GIVEN WITH THE SEED: THE CARDS: each row of YtbiiicbfpcfgdaaGreatDoorRows.lean that lists a variable, with what it lists TIED to the program's text (the seventh form; the later family's looks); each row that meets fmt, with fmt's text TOLD by the authors' own Lean function (tested against real Go, not proved from fmt's source: count such statements apart). THE CARD IS WHAT COUNTS. Prove the row's statement (the work); the ties are given (YtbiiicbfpcfgdaaGreatDoorTie.lean); close each card by the builder's one call (the guide's Derived/Test/ToyasCard.lean, 'card_holds'). Laid BY PROGRAM, IN A SANDBOX (cutbox-door.mjs). By AI agents, Wed Nov 11 2026. No macro, syntax, notation, axiom, sorry.
-/
import Derived.Test.YtbiiicbfpcfgdaaGreatDoorRows
import GoSem.ClaimSeven
namespace Go.Proofs.YtbiiicbfpcfgdaaGreatDoor
namespace Rows

/-- THE TIED CARD OF 'laws.FnReprinted'. -/
def fnReprintedCard : Claim7 := { stood := { row := fnReprintedRow, standIns := [], harness := (true, "f889dfa961066959e09507a118ef37f886c3d9f2f2642f602768fa0f683bec1d"), looks := true }, kinds := [], alts := [], laidByText := true, laidKinds := [.data, .data, .data, .data, .data, .pinned], laidTests := true, laidLooks := .later }
def FnReprintedCardSaid : Prop := Claim7.holds Tryz.pinned (.plain (OpenSpec.ofChange fnReprintedSpec)) fnReprintedCard

/-- THE SECOND FORM's CARD OF 'laws.FnReprinted'. -/
def fnReprintedUptoCard : Claim7 := { stood := { row := fnReprintedUptoRow, standIns := [], harness := (true, "f889dfa961066959e09507a118ef37f886c3d9f2f2642f602768fa0f683bec1d"), looks := true }, kinds := [], alts := [], laidByText := true, laidKinds := [.data, .data, .data, .data, .data, .pinned], laidTests := true, laidLooks := .later }
def FnReprintedUptoCardSaid : Prop := Claim7.holds Tryz.pinned (.plain (OpenSpec.upto fnReprintedSpec)) fnReprintedUptoCard
end Rows
end Go.Proofs.YtbiiicbfpcfgdaaGreatDoor
