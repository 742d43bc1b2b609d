/-
  DERIVED. GIVEN WITH THE SEED: THE CARDS: each row of YtnaoccndghnmpaaDoorRows.lean that lists a variable, with what it lists TIED to the program's text (the seventh form; the later family's looks); each row that meets fmt, with fmt's text TOLD by the authors' own Lean function (tested against real Go, not proved from fmt's source: count such statements apart). THE CARD IS WHAT COUNTS. Prove the row's statement (the work); the ties are given (YtnaoccndghnmpaaDoorTie.lean); close each card by the builder's one call (the guide's Derived/Test/ToyasCard.lean, 'card_holds'). Laid BY PROGRAM, IN A SANDBOX (cutbox-door.mjs). By AI agents, Wed Nov 11 2026. No macro, syntax, notation, axiom, sorry.
-/
import Derived.Test.YtnaoccndghnmpaaDoorRows
import GoSem.ClaimSeven
namespace Go.Proofs.YtnaoccndghnmpaaDoor
namespace Rows

/-- THE TIED CARD OF 'laws.FnMerkle'. -/
def fnMerkleCard : Claim7 := { stood := { row := fnMerkleRow, standIns := [], harness := (true, "399d028ebda259a6ddb381cd5b545034809585573dafa40bc9d860ddb56e37e2"), looks := false }, kinds := [], alts := [], laidByText := true, laidKinds := [.data, .data], laidTests := true, laidLooks := .later }
def FnMerkleCardSaid : Prop := Claim7.holds Tryd.pinned (.plain (OpenSpec.ofChange fnMerkleSpec)) fnMerkleCard

/-- THE TIED CARD OF 'laws.FnGrowth'. -/
def fnGrowthCard : Claim7 := { stood := { row := fnGrowthRow, standIns := [], harness := (true, "399d028ebda259a6ddb381cd5b545034809585573dafa40bc9d860ddb56e37e2"), looks := false }, kinds := [], alts := [], laidByText := true, laidKinds := [.data, .data], laidTests := true, laidLooks := .later }
def FnGrowthCardSaid : Prop := Claim7.holds Tryd.pinned (.plain (OpenSpec.ofChange fnGrowthSpec)) fnGrowthCard

/-- THE TIED CARD OF 'laws.FnPeaks'. -/
def fnPeaksCard : Claim7 := { stood := { row := fnPeaksRow, standIns := [], harness := (true, "399d028ebda259a6ddb381cd5b545034809585573dafa40bc9d860ddb56e37e2"), looks := false }, kinds := [], alts := [], laidByText := true, laidKinds := [.data, .data], laidTests := true, laidLooks := .later }
def FnPeaksCardSaid : Prop := Claim7.holds Tryd.pinned (.plain (OpenSpec.ofChange fnPeaksSpec)) fnPeaksCard

/-- THE SECOND FORM's CARD OF 'laws.FnMerkle'. -/
def fnMerkleUptoCard : Claim7 := { stood := { row := fnMerkleUptoRow, standIns := [], harness := (true, "399d028ebda259a6ddb381cd5b545034809585573dafa40bc9d860ddb56e37e2"), looks := false }, kinds := [], alts := [], laidByText := true, laidKinds := [.data, .data], laidTests := true, laidLooks := .later }
def FnMerkleUptoCardSaid : Prop := Claim7.holds Tryd.pinned (.plain (OpenSpec.upto fnMerkleSpec)) fnMerkleUptoCard

/-- THE SECOND FORM's CARD OF 'laws.FnGrowth'. -/
def fnGrowthUptoCard : Claim7 := { stood := { row := fnGrowthUptoRow, standIns := [], harness := (true, "399d028ebda259a6ddb381cd5b545034809585573dafa40bc9d860ddb56e37e2"), looks := false }, kinds := [], alts := [], laidByText := true, laidKinds := [.data, .data], laidTests := true, laidLooks := .later }
def FnGrowthUptoCardSaid : Prop := Claim7.holds Tryd.pinned (.plain (OpenSpec.upto fnGrowthSpec)) fnGrowthUptoCard

/-- THE SECOND FORM's CARD OF 'laws.FnPeaks'. -/
def fnPeaksUptoCard : Claim7 := { stood := { row := fnPeaksUptoRow, standIns := [], harness := (true, "399d028ebda259a6ddb381cd5b545034809585573dafa40bc9d860ddb56e37e2"), looks := false }, kinds := [], alts := [], laidByText := true, laidKinds := [.data, .data], laidTests := true, laidLooks := .later }
def FnPeaksUptoCardSaid : Prop := Claim7.holds Tryd.pinned (.plain (OpenSpec.upto fnPeaksSpec)) fnPeaksUptoCard
end Rows
end Go.Proofs.YtnaoccndghnmpaaDoor
