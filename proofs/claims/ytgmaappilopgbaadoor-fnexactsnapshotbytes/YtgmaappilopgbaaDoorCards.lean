/-
  DERIVED. GIVEN WITH THE SEED: THE CARDS: each row of YtgmaappilopgbaaDoorRows.lean that lists a variable, with what it lists TIED to the program's text (the seventh form; the later family's looks); each row that meets fmt, with fmt's text TOLD by the authors' own Lean function (tested against real Go, not proved from fmt's source: count such statements apart). THE CARD IS WHAT COUNTS. Prove the row's statement (the work); the ties are given (YtgmaappilopgbaaDoorTie.lean); close each card by the builder's one call (the guide's Derived/Test/ToyasCard.lean, 'card_holds'). Laid BY PROGRAM, IN A SANDBOX (cutbox-door.mjs). By AI agents, Wed Nov 11 2026. No macro, syntax, notation, axiom, sorry.
-/
import Derived.Test.YtgmaappilopgbaaDoorRows
import GoSem.ClaimSeven
namespace Go.Proofs.YtgmaappilopgbaaDoor
namespace Rows

/-- THE TIED CARD OF 'laws.FnExactMapPut'. -/
def fnExactMapPutCard : Claim7 := { stood := { row := fnExactMapPutRow, standIns := [], harness := (true, "0a1361f4424cc04a84ba5eef9bfd2dc219b2fcfb5a851d3db425877b90d66623"), looks := false }, kinds := [], alts := [], laidByText := true, laidKinds := [.data, .data], laidTests := true, laidLooks := .later }
def FnExactMapPutCardSaid : Prop := Claim7.holds Tryd.pinned (.plain (OpenSpec.ofChange fnExactMapPutSpec)) fnExactMapPutCard

/-- THE TIED CARD OF 'laws.FnExactLedgerOK'. -/
def fnExactLedgerOKCard : Claim7 := { stood := { row := fnExactLedgerOKRow, standIns := [], harness := (true, "0a1361f4424cc04a84ba5eef9bfd2dc219b2fcfb5a851d3db425877b90d66623"), looks := false }, kinds := [], alts := [], laidByText := true, laidKinds := [.data, .data], laidTests := true, laidLooks := .later }
def FnExactLedgerOKCardSaid : Prop := Claim7.holds Tryd.pinned (.plain (OpenSpec.ofChange fnExactLedgerOKSpec)) fnExactLedgerOKCard

/-- THE TIED CARD OF 'laws.FnExactLedgerRoot'. -/
def fnExactLedgerRootCard : Claim7 := { stood := { row := fnExactLedgerRootRow, standIns := [], harness := (true, "0a1361f4424cc04a84ba5eef9bfd2dc219b2fcfb5a851d3db425877b90d66623"), looks := false }, kinds := [], alts := [], laidByText := true, laidKinds := [.data, .data], laidTests := true, laidLooks := .later }
def FnExactLedgerRootCardSaid : Prop := Claim7.holds Tryd.pinned (.plain (OpenSpec.ofChange fnExactLedgerRootSpec)) fnExactLedgerRootCard

/-- THE TIED CARD OF 'laws.FnExactSnapshotBytes'. -/
def fnExactSnapshotBytesCard : Claim7 := { stood := { row := fnExactSnapshotBytesRow, standIns := [], harness := (true, "0a1361f4424cc04a84ba5eef9bfd2dc219b2fcfb5a851d3db425877b90d66623"), looks := false }, kinds := [], alts := [], laidByText := true, laidKinds := [.data, .data], laidTests := true, laidLooks := .later }
def FnExactSnapshotBytesCardSaid : Prop := Claim7.holds Tryd.pinned (.plain (OpenSpec.ofChange fnExactSnapshotBytesSpec)) fnExactSnapshotBytesCard

/-- THE TIED CARD OF 'laws.FnExactSameLedger'. -/
def fnExactSameLedgerCard : Claim7 := { stood := { row := fnExactSameLedgerRow, standIns := [], harness := (true, "0a1361f4424cc04a84ba5eef9bfd2dc219b2fcfb5a851d3db425877b90d66623"), looks := false }, kinds := [], alts := [], laidByText := true, laidKinds := [.data, .data], laidTests := true, laidLooks := .later }
def FnExactSameLedgerCardSaid : Prop := Claim7.holds Tryd.pinned (.plain (OpenSpec.ofChange fnExactSameLedgerSpec)) fnExactSameLedgerCard

/-- THE SECOND FORM's CARD OF 'laws.FnExactMapPut'. -/
def fnExactMapPutUptoCard : Claim7 := { stood := { row := fnExactMapPutUptoRow, standIns := [], harness := (true, "0a1361f4424cc04a84ba5eef9bfd2dc219b2fcfb5a851d3db425877b90d66623"), looks := false }, kinds := [], alts := [], laidByText := true, laidKinds := [.data, .data], laidTests := true, laidLooks := .later }
def FnExactMapPutUptoCardSaid : Prop := Claim7.holds Tryd.pinned (.plain (OpenSpec.upto fnExactMapPutSpec)) fnExactMapPutUptoCard

/-- THE SECOND FORM's CARD OF 'laws.FnExactLedgerOK'. -/
def fnExactLedgerOKUptoCard : Claim7 := { stood := { row := fnExactLedgerOKUptoRow, standIns := [], harness := (true, "0a1361f4424cc04a84ba5eef9bfd2dc219b2fcfb5a851d3db425877b90d66623"), looks := false }, kinds := [], alts := [], laidByText := true, laidKinds := [.data, .data], laidTests := true, laidLooks := .later }
def FnExactLedgerOKUptoCardSaid : Prop := Claim7.holds Tryd.pinned (.plain (OpenSpec.upto fnExactLedgerOKSpec)) fnExactLedgerOKUptoCard

/-- THE SECOND FORM's CARD OF 'laws.FnExactLedgerRoot'. -/
def fnExactLedgerRootUptoCard : Claim7 := { stood := { row := fnExactLedgerRootUptoRow, standIns := [], harness := (true, "0a1361f4424cc04a84ba5eef9bfd2dc219b2fcfb5a851d3db425877b90d66623"), looks := false }, kinds := [], alts := [], laidByText := true, laidKinds := [.data, .data], laidTests := true, laidLooks := .later }
def FnExactLedgerRootUptoCardSaid : Prop := Claim7.holds Tryd.pinned (.plain (OpenSpec.upto fnExactLedgerRootSpec)) fnExactLedgerRootUptoCard

/-- THE SECOND FORM's CARD OF 'laws.FnExactSnapshotBytes'. -/
def fnExactSnapshotBytesUptoCard : Claim7 := { stood := { row := fnExactSnapshotBytesUptoRow, standIns := [], harness := (true, "0a1361f4424cc04a84ba5eef9bfd2dc219b2fcfb5a851d3db425877b90d66623"), looks := false }, kinds := [], alts := [], laidByText := true, laidKinds := [.data, .data], laidTests := true, laidLooks := .later }
def FnExactSnapshotBytesUptoCardSaid : Prop := Claim7.holds Tryd.pinned (.plain (OpenSpec.upto fnExactSnapshotBytesSpec)) fnExactSnapshotBytesUptoCard

/-- THE SECOND FORM's CARD OF 'laws.FnExactSameLedger'. -/
def fnExactSameLedgerUptoCard : Claim7 := { stood := { row := fnExactSameLedgerUptoRow, standIns := [], harness := (true, "0a1361f4424cc04a84ba5eef9bfd2dc219b2fcfb5a851d3db425877b90d66623"), looks := false }, kinds := [], alts := [], laidByText := true, laidKinds := [.data, .data], laidTests := true, laidLooks := .later }
def FnExactSameLedgerUptoCardSaid : Prop := Claim7.holds Tryd.pinned (.plain (OpenSpec.upto fnExactSameLedgerSpec)) fnExactSameLedgerUptoCard
end Rows
end Go.Proofs.YtgmaappilopgbaaDoor
