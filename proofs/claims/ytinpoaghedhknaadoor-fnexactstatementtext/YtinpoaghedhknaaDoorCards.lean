/-
  DERIVED. GIVEN WITH THE SEED: THE CARDS: each row of YtinpoaghedhknaaDoorRows.lean that lists a variable, with what it lists TIED to the program's text (the seventh form; the later family's looks); each row that meets fmt, with fmt's text TOLD by the authors' own Lean function (tested against real Go, not proved from fmt's source: count such statements apart). THE CARD IS WHAT COUNTS. Prove the row's statement (the work); the ties are given (YtinpoaghedhknaaDoorTie.lean); close each card by the builder's one call (the guide's Derived/Test/ToyasCard.lean, 'card_holds'). Laid BY PROGRAM, IN A SANDBOX (cutbox-door.mjs). By AI agents, Wed Nov 11 2026. No macro, syntax, notation, axiom, sorry.
-/
import Derived.Test.YtinpoaghedhknaaDoorRows
import GoSem.ClaimSeven
namespace Go.Proofs.YtinpoaghedhknaaDoor
namespace Rows

/-- THE TIED CARD OF 'laws.FnExactLedgerRoot'. -/
def fnExactLedgerRootCard : Claim7 := { stood := { row := fnExactLedgerRootRow, standIns := [], harness := (true, "460cbd0a23cf9020447715e851106aa97684580a2e76df6552f74cb5ff104289"), looks := false }, kinds := [], alts := [], laidByText := true, laidKinds := [.data, .data], laidTests := true, laidLooks := .later }
def FnExactLedgerRootCardSaid : Prop := Claim7.holds Tryd.pinned (.plain (OpenSpec.ofChange fnExactLedgerRootSpec)) fnExactLedgerRootCard

/-- THE TIED CARD OF 'laws.FnExactStatementText'. -/
def fnExactStatementTextCard : Claim7 := { stood := { row := fnExactStatementTextRow, standIns := [], harness := (true, "460cbd0a23cf9020447715e851106aa97684580a2e76df6552f74cb5ff104289"), looks := false }, kinds := [], alts := [], laidByText := true, laidKinds := [.data, .data, .data], laidTests := true, laidLooks := .later }
def FnExactStatementTextCardSaid : Prop := Claim7.holds Tryd.pinned (.plain (OpenSpec.ofChange fnExactStatementTextSpec)) fnExactStatementTextCard

/-- THE SECOND FORM's CARD OF 'laws.FnExactLedgerRoot'. -/
def fnExactLedgerRootUptoCard : Claim7 := { stood := { row := fnExactLedgerRootUptoRow, standIns := [], harness := (true, "460cbd0a23cf9020447715e851106aa97684580a2e76df6552f74cb5ff104289"), looks := false }, kinds := [], alts := [], laidByText := true, laidKinds := [.data, .data], laidTests := true, laidLooks := .later }
def FnExactLedgerRootUptoCardSaid : Prop := Claim7.holds Tryd.pinned (.plain (OpenSpec.upto fnExactLedgerRootSpec)) fnExactLedgerRootUptoCard

/-- THE SECOND FORM's CARD OF 'laws.FnExactStatementText'. -/
def fnExactStatementTextUptoCard : Claim7 := { stood := { row := fnExactStatementTextUptoRow, standIns := [], harness := (true, "460cbd0a23cf9020447715e851106aa97684580a2e76df6552f74cb5ff104289"), looks := false }, kinds := [], alts := [], laidByText := true, laidKinds := [.data, .data, .data], laidTests := true, laidLooks := .later }
def FnExactStatementTextUptoCardSaid : Prop := Claim7.holds Tryd.pinned (.plain (OpenSpec.upto fnExactStatementTextSpec)) fnExactStatementTextUptoCard
end Rows
end Go.Proofs.YtinpoaghedhknaaDoor
