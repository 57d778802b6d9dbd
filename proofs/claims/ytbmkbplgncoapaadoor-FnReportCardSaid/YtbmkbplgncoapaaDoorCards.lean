/-
  DERIVED. GIVEN WITH THE SEED: THE CARDS: each row of YtbmkbplgncoapaaDoorRows.lean that lists a variable, with what it lists TIED to the program's text (the seventh form; the later family's looks); each row that meets fmt, with fmt's text TOLD by the authors' own Lean function (tested against real Go, not proved from fmt's source: count such statements apart). THE CARD IS WHAT COUNTS. Prove the row's statement (the work); the ties are given (YtbmkbplgncoapaaDoorTie.lean); close each card by the builder's one call (the guide's Derived/Test/ToyasCard.lean, 'card_holds'). Laid BY PROGRAM, IN A SANDBOX (cutbox-door.mjs). By AI agents, Wed Nov 11 2026. No macro, syntax, notation, axiom, sorry.
-/
import Derived.Test.YtbmkbplgncoapaaDoorRows
import GoSem.ClaimSeven
namespace Go.Proofs.YtbmkbplgncoapaaDoor
namespace Rows

/-- THE TIED CARD OF 'laws.FnExactArrayText'. -/
def fnExactArrayTextCard : Claim7 := { stood := { row := fnExactArrayTextRow, standIns := [], harness := (true, "b28f1937a14decdcab0b96b6dbc3bda82d99ede59d44034c723c8039eb4f7b51"), looks := true }, kinds := [], alts := [], laidByText := true, laidKinds := [.data, .data, .data], laidTests := true, laidLooks := .later }
def FnExactArrayTextCardSaid : Prop := Claim7.holds Tryd.pinned (.plain (OpenSpec.ofChange fnExactArrayTextSpec)) fnExactArrayTextCard

/-- THE TIED CARD OF 'laws.FnExactParseArray'. -/
def fnExactParseArrayCard : Claim7 := { stood := { row := fnExactParseArrayRow, standIns := [], harness := (true, "b28f1937a14decdcab0b96b6dbc3bda82d99ede59d44034c723c8039eb4f7b51"), looks := true }, kinds := [], alts := [], laidByText := true, laidKinds := [.data, .data, .data, .data, .sentinel, .sentinel, .pinned], laidTests := true, laidLooks := .later }
def FnExactParseArrayCardSaid : Prop := Claim7.holds Tryd.pinned (.plain (OpenSpec.ofChange fnExactParseArraySpec)) fnExactParseArrayCard

/-- THE TIED CARD OF 'laws.FnExactReport'. -/
def fnExactReportCard : Claim7 := { stood := { row := fnExactReportRow, standIns := [], harness := (true, "b28f1937a14decdcab0b96b6dbc3bda82d99ede59d44034c723c8039eb4f7b51"), looks := true }, kinds := [], alts := [], laidByText := true, laidKinds := [.data, .data, .data, .data], laidTests := true, laidLooks := .later }
def FnExactReportCardSaid : Prop := Claim7.holds Tryd.pinned (.plain (OpenSpec.ofChange fnExactReportSpec)) fnExactReportCard

/-- THE TIED CARD OF 'laws.FnExactReadReport'. -/
def fnExactReadReportCard : Claim7 := { stood := { row := fnExactReadReportRow, standIns := [], harness := (true, "b28f1937a14decdcab0b96b6dbc3bda82d99ede59d44034c723c8039eb4f7b51"), looks := true }, kinds := [], alts := [], laidByText := true, laidKinds := [.data, .data, .data, .data, .sentinel, .sentinel, .data, .pinned], laidTests := true, laidLooks := .later }
def FnExactReadReportCardSaid : Prop := Claim7.holds Tryd.pinned (.plain (OpenSpec.ofChange fnExactReadReportSpec)) fnExactReadReportCard

/-- THE TIED CARD OF 'laws.FnExactLogEntry'. -/
def fnExactLogEntryCard : Claim7 := { stood := { row := fnExactLogEntryRow, standIns := [], harness := (true, "b28f1937a14decdcab0b96b6dbc3bda82d99ede59d44034c723c8039eb4f7b51"), looks := true }, kinds := [], alts := [], laidByText := true, laidKinds := [.data, .data, .data], laidTests := true, laidLooks := .later }
def FnExactLogEntryCardSaid : Prop := Claim7.holds Tryd.pinned (.plain (OpenSpec.ofChange fnExactLogEntrySpec)) fnExactLogEntryCard

/-- THE TIED CARD OF 'laws.FnExactParseTests'. -/
def fnExactParseTestsCard : Claim7 := { stood := { row := fnExactParseTestsRow, standIns := [], harness := (true, "b28f1937a14decdcab0b96b6dbc3bda82d99ede59d44034c723c8039eb4f7b51"), looks := true }, kinds := [], alts := [], laidByText := true, laidKinds := [.data, .data, .data, .data, .sentinel, .sentinel, .pinned], laidTests := true, laidLooks := .later }
def FnExactParseTestsCardSaid : Prop := Claim7.holds Tryd.pinned (.plain (OpenSpec.ofChange fnExactParseTestsSpec)) fnExactParseTestsCard

/-- THE TIED CARD OF 'laws.FnReport'. -/
def fnReportCard : Claim7 := { stood := { row := fnReportRow, standIns := [], harness := (true, "b28f1937a14decdcab0b96b6dbc3bda82d99ede59d44034c723c8039eb4f7b51"), looks := true }, kinds := [], alts := [], laidByText := true, laidKinds := [.data, .data, .data, .data, .sentinel, .sentinel, .data, .pinned], laidTests := true, laidLooks := .later }
def FnReportCardSaid : Prop := Claim7.holds Tryd.pinned (.plain (OpenSpec.ofChange fnReportSpec)) fnReportCard

/-- THE SECOND FORM's CARD OF 'laws.FnExactArrayText'. -/
def fnExactArrayTextUptoCard : Claim7 := { stood := { row := fnExactArrayTextUptoRow, standIns := [], harness := (true, "b28f1937a14decdcab0b96b6dbc3bda82d99ede59d44034c723c8039eb4f7b51"), looks := true }, kinds := [], alts := [], laidByText := true, laidKinds := [.data, .data, .data], laidTests := true, laidLooks := .later }
def FnExactArrayTextUptoCardSaid : Prop := Claim7.holds Tryd.pinned (.plain (OpenSpec.upto fnExactArrayTextSpec)) fnExactArrayTextUptoCard

/-- THE SECOND FORM's CARD OF 'laws.FnExactParseArray'. -/
def fnExactParseArrayUptoCard : Claim7 := { stood := { row := fnExactParseArrayUptoRow, standIns := [], harness := (true, "b28f1937a14decdcab0b96b6dbc3bda82d99ede59d44034c723c8039eb4f7b51"), looks := true }, kinds := [], alts := [], laidByText := true, laidKinds := [.data, .data, .data, .data, .sentinel, .sentinel, .pinned], laidTests := true, laidLooks := .later }
def FnExactParseArrayUptoCardSaid : Prop := Claim7.holds Tryd.pinned (.plain (OpenSpec.upto fnExactParseArraySpec)) fnExactParseArrayUptoCard

/-- THE SECOND FORM's CARD OF 'laws.FnExactReport'. -/
def fnExactReportUptoCard : Claim7 := { stood := { row := fnExactReportUptoRow, standIns := [], harness := (true, "b28f1937a14decdcab0b96b6dbc3bda82d99ede59d44034c723c8039eb4f7b51"), looks := true }, kinds := [], alts := [], laidByText := true, laidKinds := [.data, .data, .data, .data], laidTests := true, laidLooks := .later }
def FnExactReportUptoCardSaid : Prop := Claim7.holds Tryd.pinned (.plain (OpenSpec.upto fnExactReportSpec)) fnExactReportUptoCard

/-- THE SECOND FORM's CARD OF 'laws.FnExactReadReport'. -/
def fnExactReadReportUptoCard : Claim7 := { stood := { row := fnExactReadReportUptoRow, standIns := [], harness := (true, "b28f1937a14decdcab0b96b6dbc3bda82d99ede59d44034c723c8039eb4f7b51"), looks := true }, kinds := [], alts := [], laidByText := true, laidKinds := [.data, .data, .data, .data, .sentinel, .sentinel, .data, .pinned], laidTests := true, laidLooks := .later }
def FnExactReadReportUptoCardSaid : Prop := Claim7.holds Tryd.pinned (.plain (OpenSpec.upto fnExactReadReportSpec)) fnExactReadReportUptoCard

/-- THE SECOND FORM's CARD OF 'laws.FnExactLogEntry'. -/
def fnExactLogEntryUptoCard : Claim7 := { stood := { row := fnExactLogEntryUptoRow, standIns := [], harness := (true, "b28f1937a14decdcab0b96b6dbc3bda82d99ede59d44034c723c8039eb4f7b51"), looks := true }, kinds := [], alts := [], laidByText := true, laidKinds := [.data, .data, .data], laidTests := true, laidLooks := .later }
def FnExactLogEntryUptoCardSaid : Prop := Claim7.holds Tryd.pinned (.plain (OpenSpec.upto fnExactLogEntrySpec)) fnExactLogEntryUptoCard

/-- THE SECOND FORM's CARD OF 'laws.FnExactParseTests'. -/
def fnExactParseTestsUptoCard : Claim7 := { stood := { row := fnExactParseTestsUptoRow, standIns := [], harness := (true, "b28f1937a14decdcab0b96b6dbc3bda82d99ede59d44034c723c8039eb4f7b51"), looks := true }, kinds := [], alts := [], laidByText := true, laidKinds := [.data, .data, .data, .data, .sentinel, .sentinel, .pinned], laidTests := true, laidLooks := .later }
def FnExactParseTestsUptoCardSaid : Prop := Claim7.holds Tryd.pinned (.plain (OpenSpec.upto fnExactParseTestsSpec)) fnExactParseTestsUptoCard

/-- THE SECOND FORM's CARD OF 'laws.FnReport'. -/
def fnReportUptoCard : Claim7 := { stood := { row := fnReportUptoRow, standIns := [], harness := (true, "b28f1937a14decdcab0b96b6dbc3bda82d99ede59d44034c723c8039eb4f7b51"), looks := true }, kinds := [], alts := [], laidByText := true, laidKinds := [.data, .data, .data, .data, .sentinel, .sentinel, .data, .pinned], laidTests := true, laidLooks := .later }
def FnReportUptoCardSaid : Prop := Claim7.holds Tryd.pinned (.plain (OpenSpec.upto fnReportSpec)) fnReportUptoCard
end Rows
end Go.Proofs.YtbmkbplgncoapaaDoor
