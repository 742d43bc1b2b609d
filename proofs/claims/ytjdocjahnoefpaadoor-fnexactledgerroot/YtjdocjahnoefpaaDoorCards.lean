/-
  DERIVED. GIVEN WITH THE SEED: THE CARDS: each row of YtjdocjahnoefpaaDoorRows.lean that lists a variable, with what it lists TIED to the program's text (the seventh form; the later family's looks); each row that meets fmt, with fmt's text TOLD by the authors' own Lean function (tested against real Go, not proved from fmt's source: count such statements apart). THE CARD IS WHAT COUNTS. Prove the row's statement (the work); the ties are given (YtjdocjahnoefpaaDoorTie.lean); close each card by the builder's one call (the guide's Derived/Test/ToyasCard.lean, 'card_holds'). Laid BY PROGRAM, IN A SANDBOX (cutbox-door.mjs). By AI agents, Wed Nov 11 2026. No macro, syntax, notation, axiom, sorry.
-/
import Derived.Test.YtjdocjahnoefpaaDoorRows
import GoSem.ClaimSeven
namespace Go.Proofs.YtjdocjahnoefpaaDoor
namespace Rows

/-- THE TIED CARD OF 'laws.FnExactLedgerRoot'. -/
def fnExactLedgerRootCard : Claim7 := { stood := { row := fnExactLedgerRootRow, standIns := [], harness := (true, "9858cf227ebddc2d35eb6693ad7fdcdb97211c4ed8348e4c648a15e573b56230"), looks := false }, kinds := [], alts := [], laidByText := true, laidKinds := [.data, .data], laidTests := true, laidLooks := .later }
def FnExactLedgerRootCardSaid : Prop := Claim7.holds Tryd.pinned (.plain (OpenSpec.ofChange fnExactLedgerRootSpec)) fnExactLedgerRootCard

/-- THE SECOND FORM's CARD OF 'laws.FnExactLedgerRoot'. -/
def fnExactLedgerRootUptoCard : Claim7 := { stood := { row := fnExactLedgerRootUptoRow, standIns := [], harness := (true, "9858cf227ebddc2d35eb6693ad7fdcdb97211c4ed8348e4c648a15e573b56230"), looks := false }, kinds := [], alts := [], laidByText := true, laidKinds := [.data, .data], laidTests := true, laidLooks := .later }
def FnExactLedgerRootUptoCardSaid : Prop := Claim7.holds Tryd.pinned (.plain (OpenSpec.upto fnExactLedgerRootSpec)) fnExactLedgerRootUptoCard
end Rows
end Go.Proofs.YtjdocjahnoefpaaDoor
