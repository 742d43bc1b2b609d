/-
  DERIVED. GIVEN WITH THE SEED: THE CARDS: each row of YthabemlcabmmaaaDoorRows.lean that lists a variable, with what it lists TIED to the program's text (the seventh form; the later family's looks); each row that meets fmt, with fmt's text TOLD by the authors' own Lean function (tested against real Go, not proved from fmt's source: count such statements apart). THE CARD IS WHAT COUNTS. Prove the row's statement (the work); the ties are given (YthabemlcabmmaaaDoorTie.lean); close each card by the builder's one call (the guide's Derived/Test/ToyasCard.lean, 'card_holds'). Laid BY PROGRAM, IN A SANDBOX (cutbox-door.mjs). By AI agents, Wed Nov 11 2026. No macro, syntax, notation, axiom, sorry.
-/
import Derived.Test.YthabemlcabmmaaaDoorRows
import GoSem.ClaimSeven
namespace Go.Proofs.YthabemlcabmmaaaDoor
namespace Rows

/-- THE TIED CARD OF 'laws.FnExactNodeHash'. -/
def fnExactNodeHashCard : Claim7 := { stood := { row := fnExactNodeHashRow, standIns := [], harness := (true, "f96d40d3b7841834e13205dcac923fdb0a04297d50cc85867b81fc08524ee12c"), looks := false }, kinds := [], alts := [], laidByText := true, laidKinds := [.data, .data], laidTests := true, laidLooks := .later }
def FnExactNodeHashCardSaid : Prop := Claim7.holds Tryd.pinned (.plain (OpenSpec.ofChange fnExactNodeHashSpec)) fnExactNodeHashCard

/-- THE TIED CARD OF 'laws.FnExactTreeHash'. -/
def fnExactTreeHashCard : Claim7 := { stood := { row := fnExactTreeHashRow, standIns := [], harness := (true, "f96d40d3b7841834e13205dcac923fdb0a04297d50cc85867b81fc08524ee12c"), looks := false }, kinds := [], alts := [], laidByText := true, laidKinds := [.data, .data], laidTests := true, laidLooks := .later }
def FnExactTreeHashCardSaid : Prop := Claim7.holds Tryd.pinned (.plain (OpenSpec.ofChange fnExactTreeHashSpec)) fnExactTreeHashCard

/-- THE TIED CARD OF 'laws.FnExactInclusionProof'. -/
def fnExactInclusionProofCard : Claim7 := { stood := { row := fnExactInclusionProofRow, standIns := [], harness := (true, "f96d40d3b7841834e13205dcac923fdb0a04297d50cc85867b81fc08524ee12c"), looks := false }, kinds := [], alts := [], laidByText := true, laidKinds := [.data, .data], laidTests := true, laidLooks := .later }
def FnExactInclusionProofCardSaid : Prop := Claim7.holds Tryd.pinned (.plain (OpenSpec.ofChange fnExactInclusionProofSpec)) fnExactInclusionProofCard

/-- THE TIED CARD OF 'laws.FnExactInclusionRoot'. -/
def fnExactInclusionRootCard : Claim7 := { stood := { row := fnExactInclusionRootRow, standIns := [], harness := (true, "f96d40d3b7841834e13205dcac923fdb0a04297d50cc85867b81fc08524ee12c"), looks := false }, kinds := [], alts := [], laidByText := true, laidKinds := [.data, .data], laidTests := true, laidLooks := .later }
def FnExactInclusionRootCardSaid : Prop := Claim7.holds Tryd.pinned (.plain (OpenSpec.ofChange fnExactInclusionRootSpec)) fnExactInclusionRootCard

/-- THE TIED CARD OF 'laws.FnExactConsistencyProof'. -/
def fnExactConsistencyProofCard : Claim7 := { stood := { row := fnExactConsistencyProofRow, standIns := [], harness := (true, "f96d40d3b7841834e13205dcac923fdb0a04297d50cc85867b81fc08524ee12c"), looks := false }, kinds := [], alts := [], laidByText := true, laidKinds := [.data, .data], laidTests := true, laidLooks := .later }
def FnExactConsistencyProofCardSaid : Prop := Claim7.holds Tryd.pinned (.plain (OpenSpec.ofChange fnExactConsistencyProofSpec)) fnExactConsistencyProofCard

/-- THE TIED CARD OF 'laws.FnExactConsistencyRoots'. -/
def fnExactConsistencyRootsCard : Claim7 := { stood := { row := fnExactConsistencyRootsRow, standIns := [], harness := (true, "f96d40d3b7841834e13205dcac923fdb0a04297d50cc85867b81fc08524ee12c"), looks := false }, kinds := [], alts := [], laidByText := true, laidKinds := [.data, .data], laidTests := true, laidLooks := .later }
def FnExactConsistencyRootsCardSaid : Prop := Claim7.holds Tryd.pinned (.plain (OpenSpec.ofChange fnExactConsistencyRootsSpec)) fnExactConsistencyRootsCard

/-- THE TIED CARD OF 'laws.FnExactAddPeak'. -/
def fnExactAddPeakCard : Claim7 := { stood := { row := fnExactAddPeakRow, standIns := [], harness := (true, "f96d40d3b7841834e13205dcac923fdb0a04297d50cc85867b81fc08524ee12c"), looks := false }, kinds := [], alts := [], laidByText := true, laidKinds := [.data, .data], laidTests := true, laidLooks := .later }
def FnExactAddPeakCardSaid : Prop := Claim7.holds Tryd.pinned (.plain (OpenSpec.ofChange fnExactAddPeakSpec)) fnExactAddPeakCard

/-- THE TIED CARD OF 'laws.FnExactPeaksRoot'. -/
def fnExactPeaksRootCard : Claim7 := { stood := { row := fnExactPeaksRootRow, standIns := [], harness := (true, "f96d40d3b7841834e13205dcac923fdb0a04297d50cc85867b81fc08524ee12c"), looks := false }, kinds := [], alts := [], laidByText := true, laidKinds := [.data, .data], laidTests := true, laidLooks := .later }
def FnExactPeaksRootCardSaid : Prop := Claim7.holds Tryd.pinned (.plain (OpenSpec.ofChange fnExactPeaksRootSpec)) fnExactPeaksRootCard

/-- THE TIED CARD OF 'laws.FnExactLedgerRoot'. -/
def fnExactLedgerRootCard : Claim7 := { stood := { row := fnExactLedgerRootRow, standIns := [], harness := (true, "f96d40d3b7841834e13205dcac923fdb0a04297d50cc85867b81fc08524ee12c"), looks := false }, kinds := [], alts := [], laidByText := true, laidKinds := [.data, .data], laidTests := true, laidLooks := .later }
def FnExactLedgerRootCardSaid : Prop := Claim7.holds Tryd.pinned (.plain (OpenSpec.ofChange fnExactLedgerRootSpec)) fnExactLedgerRootCard

/-- THE SECOND FORM's CARD OF 'laws.FnExactNodeHash'. -/
def fnExactNodeHashUptoCard : Claim7 := { stood := { row := fnExactNodeHashUptoRow, standIns := [], harness := (true, "f96d40d3b7841834e13205dcac923fdb0a04297d50cc85867b81fc08524ee12c"), looks := false }, kinds := [], alts := [], laidByText := true, laidKinds := [.data, .data], laidTests := true, laidLooks := .later }
def FnExactNodeHashUptoCardSaid : Prop := Claim7.holds Tryd.pinned (.plain (OpenSpec.upto fnExactNodeHashSpec)) fnExactNodeHashUptoCard

/-- THE SECOND FORM's CARD OF 'laws.FnExactTreeHash'. -/
def fnExactTreeHashUptoCard : Claim7 := { stood := { row := fnExactTreeHashUptoRow, standIns := [], harness := (true, "f96d40d3b7841834e13205dcac923fdb0a04297d50cc85867b81fc08524ee12c"), looks := false }, kinds := [], alts := [], laidByText := true, laidKinds := [.data, .data], laidTests := true, laidLooks := .later }
def FnExactTreeHashUptoCardSaid : Prop := Claim7.holds Tryd.pinned (.plain (OpenSpec.upto fnExactTreeHashSpec)) fnExactTreeHashUptoCard

/-- THE SECOND FORM's CARD OF 'laws.FnExactInclusionProof'. -/
def fnExactInclusionProofUptoCard : Claim7 := { stood := { row := fnExactInclusionProofUptoRow, standIns := [], harness := (true, "f96d40d3b7841834e13205dcac923fdb0a04297d50cc85867b81fc08524ee12c"), looks := false }, kinds := [], alts := [], laidByText := true, laidKinds := [.data, .data], laidTests := true, laidLooks := .later }
def FnExactInclusionProofUptoCardSaid : Prop := Claim7.holds Tryd.pinned (.plain (OpenSpec.upto fnExactInclusionProofSpec)) fnExactInclusionProofUptoCard

/-- THE SECOND FORM's CARD OF 'laws.FnExactInclusionRoot'. -/
def fnExactInclusionRootUptoCard : Claim7 := { stood := { row := fnExactInclusionRootUptoRow, standIns := [], harness := (true, "f96d40d3b7841834e13205dcac923fdb0a04297d50cc85867b81fc08524ee12c"), looks := false }, kinds := [], alts := [], laidByText := true, laidKinds := [.data, .data], laidTests := true, laidLooks := .later }
def FnExactInclusionRootUptoCardSaid : Prop := Claim7.holds Tryd.pinned (.plain (OpenSpec.upto fnExactInclusionRootSpec)) fnExactInclusionRootUptoCard

/-- THE SECOND FORM's CARD OF 'laws.FnExactConsistencyProof'. -/
def fnExactConsistencyProofUptoCard : Claim7 := { stood := { row := fnExactConsistencyProofUptoRow, standIns := [], harness := (true, "f96d40d3b7841834e13205dcac923fdb0a04297d50cc85867b81fc08524ee12c"), looks := false }, kinds := [], alts := [], laidByText := true, laidKinds := [.data, .data], laidTests := true, laidLooks := .later }
def FnExactConsistencyProofUptoCardSaid : Prop := Claim7.holds Tryd.pinned (.plain (OpenSpec.upto fnExactConsistencyProofSpec)) fnExactConsistencyProofUptoCard

/-- THE SECOND FORM's CARD OF 'laws.FnExactConsistencyRoots'. -/
def fnExactConsistencyRootsUptoCard : Claim7 := { stood := { row := fnExactConsistencyRootsUptoRow, standIns := [], harness := (true, "f96d40d3b7841834e13205dcac923fdb0a04297d50cc85867b81fc08524ee12c"), looks := false }, kinds := [], alts := [], laidByText := true, laidKinds := [.data, .data], laidTests := true, laidLooks := .later }
def FnExactConsistencyRootsUptoCardSaid : Prop := Claim7.holds Tryd.pinned (.plain (OpenSpec.upto fnExactConsistencyRootsSpec)) fnExactConsistencyRootsUptoCard

/-- THE SECOND FORM's CARD OF 'laws.FnExactAddPeak'. -/
def fnExactAddPeakUptoCard : Claim7 := { stood := { row := fnExactAddPeakUptoRow, standIns := [], harness := (true, "f96d40d3b7841834e13205dcac923fdb0a04297d50cc85867b81fc08524ee12c"), looks := false }, kinds := [], alts := [], laidByText := true, laidKinds := [.data, .data], laidTests := true, laidLooks := .later }
def FnExactAddPeakUptoCardSaid : Prop := Claim7.holds Tryd.pinned (.plain (OpenSpec.upto fnExactAddPeakSpec)) fnExactAddPeakUptoCard

/-- THE SECOND FORM's CARD OF 'laws.FnExactPeaksRoot'. -/
def fnExactPeaksRootUptoCard : Claim7 := { stood := { row := fnExactPeaksRootUptoRow, standIns := [], harness := (true, "f96d40d3b7841834e13205dcac923fdb0a04297d50cc85867b81fc08524ee12c"), looks := false }, kinds := [], alts := [], laidByText := true, laidKinds := [.data, .data], laidTests := true, laidLooks := .later }
def FnExactPeaksRootUptoCardSaid : Prop := Claim7.holds Tryd.pinned (.plain (OpenSpec.upto fnExactPeaksRootSpec)) fnExactPeaksRootUptoCard

/-- THE SECOND FORM's CARD OF 'laws.FnExactLedgerRoot'. -/
def fnExactLedgerRootUptoCard : Claim7 := { stood := { row := fnExactLedgerRootUptoRow, standIns := [], harness := (true, "f96d40d3b7841834e13205dcac923fdb0a04297d50cc85867b81fc08524ee12c"), looks := false }, kinds := [], alts := [], laidByText := true, laidKinds := [.data, .data], laidTests := true, laidLooks := .later }
def FnExactLedgerRootUptoCardSaid : Prop := Claim7.holds Tryd.pinned (.plain (OpenSpec.upto fnExactLedgerRootSpec)) fnExactLedgerRootUptoCard
end Rows
end Go.Proofs.YthabemlcabmmaaaDoor
