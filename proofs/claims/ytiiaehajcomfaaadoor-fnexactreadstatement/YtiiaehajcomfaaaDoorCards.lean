/-
  DERIVED. GIVEN WITH THE SEED: THE CARDS: each row of YtiiaehajcomfaaaDoorRows.lean that lists a variable, with what it lists TIED to the program's text (the seventh form; the later family's looks); each row that meets fmt, with fmt's text TOLD by the authors' own Lean function (tested against real Go, not proved from fmt's source: count such statements apart). THE CARD IS WHAT COUNTS. Prove the row's statement (the work); the ties are given (YtiiaehajcomfaaaDoorTie.lean); close each card by the builder's one call (the guide's Derived/Test/ToyasCard.lean, 'card_holds'). Laid BY PROGRAM, IN A SANDBOX (cutbox-door.mjs). By AI agents, Wed Nov 11 2026. No macro, syntax, notation, axiom, sorry.
-/
import Derived.Test.YtiiaehajcomfaaaDoorRows
import GoSem.ClaimSeven
namespace Go.Proofs.YtiiaehajcomfaaaDoor
namespace Rows

/-- THE TIED CARD OF 'laws.FnExactStatementText'. -/
def fnExactStatementTextCard : Claim7 := { stood := { row := fnExactStatementTextRow, standIns := [], harness := (true, "d3f274269d9f9d5517f4202eaeff1efbecabc702208127e7dbceb29536e315fc"), looks := true }, kinds := [], alts := [], laidByText := true, laidKinds := [.data, .data, .data], laidTests := true, laidLooks := .later }
def FnExactStatementTextCardSaid : Prop := Claim7.holds Tryd.pinned (.plain (OpenSpec.ofChange fnExactStatementTextSpec)) fnExactStatementTextCard

/-- THE TIED CARD OF 'laws.FnExactReadStatement'. -/
def fnExactReadStatementCard : Claim7 := { stood := { row := fnExactReadStatementRow, standIns := [], harness := (true, "d3f274269d9f9d5517f4202eaeff1efbecabc702208127e7dbceb29536e315fc"), looks := true }, kinds := [], alts := [], laidByText := true, laidKinds := [.data, .data, .data, .data, .sentinel, .sentinel, .pinned], laidTests := true, laidLooks := .later }
def FnExactReadStatementCardSaid : Prop := Claim7.holds Tryd.pinned (.plain (OpenSpec.ofChange fnExactReadStatementSpec)) fnExactReadStatementCard

/-- THE TIED CARD OF 'laws.FnExactCheckEntry'. -/
def fnExactCheckEntryCard : Claim7 := { stood := { row := fnExactCheckEntryRow, standIns := [], harness := (true, "d3f274269d9f9d5517f4202eaeff1efbecabc702208127e7dbceb29536e315fc"), looks := true }, kinds := [], alts := [], laidByText := true, laidKinds := [.handle, .data, .data], laidTests := true, laidLooks := .later }
def FnExactCheckEntryCardSaid : Prop := Claim7.holds Tryd.pinned (.plain (OpenSpec.ofChange fnExactCheckEntrySpec)) fnExactCheckEntryCard

/-- THE TIED CARD OF 'laws.FnExactCollision'. -/
def fnExactCollisionCard : Claim7 := { stood := { row := fnExactCollisionRow, standIns := [], harness := (true, "d3f274269d9f9d5517f4202eaeff1efbecabc702208127e7dbceb29536e315fc"), looks := true }, kinds := [], alts := [], laidByText := true, laidKinds := [.data, .data], laidTests := true, laidLooks := .later }
def FnExactCollisionCardSaid : Prop := Claim7.holds Tryd.pinned (.plain (OpenSpec.ofChange fnExactCollisionSpec)) fnExactCollisionCard

/-- THE SECOND FORM's CARD OF 'laws.FnExactStatementText'. -/
def fnExactStatementTextUptoCard : Claim7 := { stood := { row := fnExactStatementTextUptoRow, standIns := [], harness := (true, "d3f274269d9f9d5517f4202eaeff1efbecabc702208127e7dbceb29536e315fc"), looks := true }, kinds := [], alts := [], laidByText := true, laidKinds := [.data, .data, .data], laidTests := true, laidLooks := .later }
def FnExactStatementTextUptoCardSaid : Prop := Claim7.holds Tryd.pinned (.plain (OpenSpec.upto fnExactStatementTextSpec)) fnExactStatementTextUptoCard

/-- THE SECOND FORM's CARD OF 'laws.FnExactReadStatement'. -/
def fnExactReadStatementUptoCard : Claim7 := { stood := { row := fnExactReadStatementUptoRow, standIns := [], harness := (true, "d3f274269d9f9d5517f4202eaeff1efbecabc702208127e7dbceb29536e315fc"), looks := true }, kinds := [], alts := [], laidByText := true, laidKinds := [.data, .data, .data, .data, .sentinel, .sentinel, .pinned], laidTests := true, laidLooks := .later }
def FnExactReadStatementUptoCardSaid : Prop := Claim7.holds Tryd.pinned (.plain (OpenSpec.upto fnExactReadStatementSpec)) fnExactReadStatementUptoCard

/-- THE SECOND FORM's CARD OF 'laws.FnExactCheckEntry'. -/
def fnExactCheckEntryUptoCard : Claim7 := { stood := { row := fnExactCheckEntryUptoRow, standIns := [], harness := (true, "d3f274269d9f9d5517f4202eaeff1efbecabc702208127e7dbceb29536e315fc"), looks := true }, kinds := [], alts := [], laidByText := true, laidKinds := [.handle, .data, .data], laidTests := true, laidLooks := .later }
def FnExactCheckEntryUptoCardSaid : Prop := Claim7.holds Tryd.pinned (.plain (OpenSpec.upto fnExactCheckEntrySpec)) fnExactCheckEntryUptoCard

/-- THE SECOND FORM's CARD OF 'laws.FnExactCollision'. -/
def fnExactCollisionUptoCard : Claim7 := { stood := { row := fnExactCollisionUptoRow, standIns := [], harness := (true, "d3f274269d9f9d5517f4202eaeff1efbecabc702208127e7dbceb29536e315fc"), looks := true }, kinds := [], alts := [], laidByText := true, laidKinds := [.data, .data], laidTests := true, laidLooks := .later }
def FnExactCollisionUptoCardSaid : Prop := Claim7.holds Tryd.pinned (.plain (OpenSpec.upto fnExactCollisionSpec)) fnExactCollisionUptoCard
end Rows
end Go.Proofs.YtiiaehajcomfaaaDoor
