/-
  DERIVED. GIVEN WITH THE SEED: THE CARDS: each row of YtfihhkhdigbmiaaGreatDoorRows.lean that lists a variable, with what it lists TIED to the program's text (the seventh form; the later family's looks); each row that meets fmt, with fmt's text TOLD by the authors' own Lean function (tested against real Go, not proved from fmt's source: count such statements apart). THE CARD IS WHAT COUNTS. Prove the row's statement (the work); the ties are given (YtfihhkhdigbmiaaGreatDoorTie.lean); close each card by the builder's one call (the guide's Derived/Test/ToyasCard.lean, 'card_holds'). Laid BY PROGRAM, IN A SANDBOX (cutbox-door.mjs). By AI agents, Wed Nov 11 2026. No macro, syntax, notation, axiom, sorry.
-/
import Derived.Test.YtfihhkhdigbmiaaGreatDoorRows
import GoSem.ClaimSeven
namespace Go.Proofs.YtfihhkhdigbmiaaGreatDoor
namespace Rows

/-- THE TIED CARD OF 'laws.FnExactWalSync'. -/
def fnExactWalSyncCard : Claim7 := { stood := { row := fnExactWalSyncRow, standIns := [], harness := (true, "39f8a758f649d4797ae7eca2e944fb287b6e371659d1d1b44b71b4e0dd355f47"), looks := true }, kinds := [], alts := [], laidByText := true, laidKinds := [.sentinel, .sentinel, .sentinel, .sentinel, .sentinel], laidTests := true, laidLooks := .later }
def FnExactWalSyncCardSaid : Prop := Claim7.holds Tryz.pinned (.plain (OpenSpec.ofChange fnExactWalSyncSpec)) fnExactWalSyncCard

/-- THE TIED CARD OF 'laws.FnExactWalForget'. -/
def fnExactWalForgetCard : Claim7 := { stood := { row := fnExactWalForgetRow, standIns := [], harness := (true, "39f8a758f649d4797ae7eca2e944fb287b6e371659d1d1b44b71b4e0dd355f47"), looks := true }, kinds := [], alts := [], laidByText := true, laidKinds := [.sentinel, .sentinel, .sentinel, .sentinel, .sentinel], laidTests := true, laidLooks := .later }
def FnExactWalForgetCardSaid : Prop := Claim7.holds Tryz.pinned (.plain (OpenSpec.ofChange fnExactWalForgetSpec)) fnExactWalForgetCard

/-- THE SECOND FORM's CARD OF 'laws.FnExactWalSync'. -/
def fnExactWalSyncUptoCard : Claim7 := { stood := { row := fnExactWalSyncUptoRow, standIns := [], harness := (true, "39f8a758f649d4797ae7eca2e944fb287b6e371659d1d1b44b71b4e0dd355f47"), looks := true }, kinds := [], alts := [], laidByText := true, laidKinds := [.sentinel, .sentinel, .sentinel, .sentinel, .sentinel], laidTests := true, laidLooks := .later }
def FnExactWalSyncUptoCardSaid : Prop := Claim7.holds Tryz.pinned (.plain (OpenSpec.upto fnExactWalSyncSpec)) fnExactWalSyncUptoCard

/-- THE SECOND FORM's CARD OF 'laws.FnExactWalForget'. -/
def fnExactWalForgetUptoCard : Claim7 := { stood := { row := fnExactWalForgetUptoRow, standIns := [], harness := (true, "39f8a758f649d4797ae7eca2e944fb287b6e371659d1d1b44b71b4e0dd355f47"), looks := true }, kinds := [], alts := [], laidByText := true, laidKinds := [.sentinel, .sentinel, .sentinel, .sentinel, .sentinel], laidTests := true, laidLooks := .later }
def FnExactWalForgetUptoCardSaid : Prop := Claim7.holds Tryz.pinned (.plain (OpenSpec.upto fnExactWalForgetSpec)) fnExactWalForgetUptoCard
end Rows
end Go.Proofs.YtfihhkhdigbmiaaGreatDoor
