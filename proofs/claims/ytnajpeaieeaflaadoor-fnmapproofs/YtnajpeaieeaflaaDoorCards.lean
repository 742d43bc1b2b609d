/-
  DERIVED. GIVEN WITH THE SEED: THE CARDS: each row of YtnajpeaieeaflaaDoorRows.lean that lists a variable, with what it lists TIED to the program's text (the seventh form; the later family's looks); each row that meets fmt, with fmt's text TOLD by the authors' own Lean function (tested against real Go, not proved from fmt's source: count such statements apart). THE CARD IS WHAT COUNTS. Prove the row's statement (the work); the ties are given (YtnajpeaieeaflaaDoorTie.lean); close each card by the builder's one call (the guide's Derived/Test/ToyasCard.lean, 'card_holds'). Laid BY PROGRAM, IN A SANDBOX (cutbox-door.mjs). By AI agents, Wed Nov 11 2026. No macro, syntax, notation, axiom, sorry.
-/
import Derived.Test.YtnajpeaieeaflaaDoorRows
import GoSem.ClaimSeven
namespace Go.Proofs.YtnajpeaieeaflaaDoor
namespace Rows

/-- THE TIED CARD OF 'laws.FnMapProofs'. -/
def fnMapProofsCard : Claim7 := { stood := { row := fnMapProofsRow, standIns := [], harness := (true, "784ef4d1e865481e1f944de046384a1037ee26ffa519d70efb2e59f0d1b06f7d"), looks := false }, kinds := [], alts := [], laidByText := true, laidKinds := [.data, .data], laidTests := true, laidLooks := .later }
def FnMapProofsCardSaid : Prop := Claim7.holds Tryd.pinned (.plain (OpenSpec.ofChange fnMapProofsSpec)) fnMapProofsCard

/-- THE SECOND FORM's CARD OF 'laws.FnMapProofs'. -/
def fnMapProofsUptoCard : Claim7 := { stood := { row := fnMapProofsUptoRow, standIns := [], harness := (true, "784ef4d1e865481e1f944de046384a1037ee26ffa519d70efb2e59f0d1b06f7d"), looks := false }, kinds := [], alts := [], laidByText := true, laidKinds := [.data, .data], laidTests := true, laidLooks := .later }
def FnMapProofsUptoCardSaid : Prop := Claim7.holds Tryd.pinned (.plain (OpenSpec.upto fnMapProofsSpec)) fnMapProofsUptoCard
end Rows
end Go.Proofs.YtnajpeaieeaflaaDoor
