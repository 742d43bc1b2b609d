/-
  DERIVED. GIVEN WITH THE SEED: THE CARDS: each row of YtkojmnlfpccbiaaDoorRows.lean that lists a variable, with what it lists TIED to the program's text (the seventh form; the later family's looks); each row that meets fmt, with fmt's text TOLD by the authors' own Lean function (tested against real Go, not proved from fmt's source: count such statements apart). THE CARD IS WHAT COUNTS. Prove the row's statement (the work); the ties are given (YtkojmnlfpccbiaaDoorTie.lean); close each card by the builder's one call (the guide's Derived/Test/ToyasCard.lean, 'card_holds'). Laid BY PROGRAM, IN A SANDBOX (cutbox-door.mjs). By AI agents, Wed Nov 11 2026. No macro, syntax, notation, axiom, sorry.
-/
import Derived.Test.YtkojmnlfpccbiaaDoorRows
import GoSem.ClaimSeven
namespace Go.Proofs.YtkojmnlfpccbiaaDoor
namespace Rows

/-- THE TIED CARD OF 'laws.FnExactStateOf'. -/
def fnExactStateOfCard : Claim7 := { stood := { row := fnExactStateOfRow, standIns := [], harness := (true, "490abe5d1dacc645833da3bb5ee171bea5c2e7b0688a4c5cfbe71c2970999e2b"), looks := false }, kinds := [], alts := [], laidByText := true, laidKinds := [.data, .data], laidTests := true, laidLooks := .later }
def FnExactStateOfCardSaid : Prop := Claim7.holds Tryd.pinned (.plain (OpenSpec.ofChange fnExactStateOfSpec)) fnExactStateOfCard

/-- THE TIED CARD OF 'laws.FnExactProveEntry'. -/
def fnExactProveEntryCard : Claim7 := { stood := { row := fnExactProveEntryRow, standIns := [], harness := (true, "490abe5d1dacc645833da3bb5ee171bea5c2e7b0688a4c5cfbe71c2970999e2b"), looks := false }, kinds := [], alts := [], laidByText := true, laidKinds := [.data, .data], laidTests := true, laidLooks := .later }
def FnExactProveEntryCardSaid : Prop := Claim7.holds Tryd.pinned (.plain (OpenSpec.ofChange fnExactProveEntrySpec)) fnExactProveEntryCard

/-- THE TIED CARD OF 'laws.FnExactProveGrowth'. -/
def fnExactProveGrowthCard : Claim7 := { stood := { row := fnExactProveGrowthRow, standIns := [], harness := (true, "490abe5d1dacc645833da3bb5ee171bea5c2e7b0688a4c5cfbe71c2970999e2b"), looks := false }, kinds := [], alts := [], laidByText := true, laidKinds := [.data, .data], laidTests := true, laidLooks := .later }
def FnExactProveGrowthCardSaid : Prop := Claim7.holds Tryd.pinned (.plain (OpenSpec.ofChange fnExactProveGrowthSpec)) fnExactProveGrowthCard

/-- THE SECOND FORM's CARD OF 'laws.FnExactStateOf'. -/
def fnExactStateOfUptoCard : Claim7 := { stood := { row := fnExactStateOfUptoRow, standIns := [], harness := (true, "490abe5d1dacc645833da3bb5ee171bea5c2e7b0688a4c5cfbe71c2970999e2b"), looks := false }, kinds := [], alts := [], laidByText := true, laidKinds := [.data, .data], laidTests := true, laidLooks := .later }
def FnExactStateOfUptoCardSaid : Prop := Claim7.holds Tryd.pinned (.plain (OpenSpec.upto fnExactStateOfSpec)) fnExactStateOfUptoCard

/-- THE SECOND FORM's CARD OF 'laws.FnExactProveEntry'. -/
def fnExactProveEntryUptoCard : Claim7 := { stood := { row := fnExactProveEntryUptoRow, standIns := [], harness := (true, "490abe5d1dacc645833da3bb5ee171bea5c2e7b0688a4c5cfbe71c2970999e2b"), looks := false }, kinds := [], alts := [], laidByText := true, laidKinds := [.data, .data], laidTests := true, laidLooks := .later }
def FnExactProveEntryUptoCardSaid : Prop := Claim7.holds Tryd.pinned (.plain (OpenSpec.upto fnExactProveEntrySpec)) fnExactProveEntryUptoCard

/-- THE SECOND FORM's CARD OF 'laws.FnExactProveGrowth'. -/
def fnExactProveGrowthUptoCard : Claim7 := { stood := { row := fnExactProveGrowthUptoRow, standIns := [], harness := (true, "490abe5d1dacc645833da3bb5ee171bea5c2e7b0688a4c5cfbe71c2970999e2b"), looks := false }, kinds := [], alts := [], laidByText := true, laidKinds := [.data, .data], laidTests := true, laidLooks := .later }
def FnExactProveGrowthUptoCardSaid : Prop := Claim7.holds Tryd.pinned (.plain (OpenSpec.upto fnExactProveGrowthSpec)) fnExactProveGrowthUptoCard
end Rows
end Go.Proofs.YtkojmnlfpccbiaaDoor
