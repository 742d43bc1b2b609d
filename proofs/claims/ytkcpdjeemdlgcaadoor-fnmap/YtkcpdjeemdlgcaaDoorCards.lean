/-
  DERIVED. GIVEN WITH THE SEED: THE CARDS: each row of YtkcpdjeemdlgcaaDoorRows.lean that lists a variable, with what it lists TIED to the program's text (the seventh form; the later family's looks); each row that meets fmt, with fmt's text TOLD by the authors' own Lean function (tested against real Go, not proved from fmt's source: count such statements apart). THE CARD IS WHAT COUNTS. Prove the row's statement (the work); the ties are given (YtkcpdjeemdlgcaaDoorTie.lean); close each card by the builder's one call (the guide's Derived/Test/ToyasCard.lean, 'card_holds'). Laid BY PROGRAM, IN A SANDBOX (cutbox-door.mjs). By AI agents, Wed Nov 11 2026. No macro, syntax, notation, axiom, sorry.
-/
import Derived.Test.YtkcpdjeemdlgcaaDoorRows
import GoSem.ClaimSeven
namespace Go.Proofs.YtkcpdjeemdlgcaaDoor
namespace Rows

/-- THE TIED CARD OF 'laws.FnMap'. -/
def fnMapCard : Claim7 := { stood := { row := fnMapRow, standIns := [], harness := (true, "a1764e3abbdc1090b1496efc9c7be956a3c86cc173b63da5c0c5a9ebd1c6d80d"), looks := false }, kinds := [], alts := [], laidByText := true, laidKinds := [.data, .data], laidTests := true, laidLooks := .later }
def FnMapCardSaid : Prop := Claim7.holds Tryd.pinned (.plain (OpenSpec.ofChange fnMapSpec)) fnMapCard

/-- THE TIED CARD OF 'laws.FnMapDrops'. -/
def fnMapDropsCard : Claim7 := { stood := { row := fnMapDropsRow, standIns := [], harness := (true, "a1764e3abbdc1090b1496efc9c7be956a3c86cc173b63da5c0c5a9ebd1c6d80d"), looks := false }, kinds := [], alts := [], laidByText := true, laidKinds := [.data, .data], laidTests := true, laidLooks := .later }
def FnMapDropsCardSaid : Prop := Claim7.holds Tryd.pinned (.plain (OpenSpec.ofChange fnMapDropsSpec)) fnMapDropsCard

/-- THE TIED CARD OF 'laws.FnMapProofs'. -/
def fnMapProofsCard : Claim7 := { stood := { row := fnMapProofsRow, standIns := [], harness := (true, "a1764e3abbdc1090b1496efc9c7be956a3c86cc173b63da5c0c5a9ebd1c6d80d"), looks := false }, kinds := [], alts := [], laidByText := true, laidKinds := [.data, .data], laidTests := true, laidLooks := .later }
def FnMapProofsCardSaid : Prop := Claim7.holds Tryd.pinned (.plain (OpenSpec.ofChange fnMapProofsSpec)) fnMapProofsCard

/-- THE SECOND FORM's CARD OF 'laws.FnMap'. -/
def fnMapUptoCard : Claim7 := { stood := { row := fnMapUptoRow, standIns := [], harness := (true, "a1764e3abbdc1090b1496efc9c7be956a3c86cc173b63da5c0c5a9ebd1c6d80d"), looks := false }, kinds := [], alts := [], laidByText := true, laidKinds := [.data, .data], laidTests := true, laidLooks := .later }
def FnMapUptoCardSaid : Prop := Claim7.holds Tryd.pinned (.plain (OpenSpec.upto fnMapSpec)) fnMapUptoCard

/-- THE SECOND FORM's CARD OF 'laws.FnMapDrops'. -/
def fnMapDropsUptoCard : Claim7 := { stood := { row := fnMapDropsUptoRow, standIns := [], harness := (true, "a1764e3abbdc1090b1496efc9c7be956a3c86cc173b63da5c0c5a9ebd1c6d80d"), looks := false }, kinds := [], alts := [], laidByText := true, laidKinds := [.data, .data], laidTests := true, laidLooks := .later }
def FnMapDropsUptoCardSaid : Prop := Claim7.holds Tryd.pinned (.plain (OpenSpec.upto fnMapDropsSpec)) fnMapDropsUptoCard

/-- THE SECOND FORM's CARD OF 'laws.FnMapProofs'. -/
def fnMapProofsUptoCard : Claim7 := { stood := { row := fnMapProofsUptoRow, standIns := [], harness := (true, "a1764e3abbdc1090b1496efc9c7be956a3c86cc173b63da5c0c5a9ebd1c6d80d"), looks := false }, kinds := [], alts := [], laidByText := true, laidKinds := [.data, .data], laidTests := true, laidLooks := .later }
def FnMapProofsUptoCardSaid : Prop := Claim7.holds Tryd.pinned (.plain (OpenSpec.upto fnMapProofsSpec)) fnMapProofsUptoCard
end Rows
end Go.Proofs.YtkcpdjeemdlgcaaDoor
