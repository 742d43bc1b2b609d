/-
  DERIVED. GIVEN WITH THE SEED: THE CARDS: each row of YtbchnheinnileaaGreatDoorRows.lean that lists a variable, with what it lists TIED to the program's text (the seventh form; the later family's looks); each row that meets fmt, with fmt's text TOLD by the authors' own Lean function (tested against real Go, not proved from fmt's source: count such statements apart). THE CARD IS WHAT COUNTS. Prove the row's statement (the work); the ties are given (YtbchnheinnileaaGreatDoorTie.lean); close each card by the builder's one call (the guide's Derived/Test/ToyasCard.lean, 'card_holds'). Laid BY PROGRAM, IN A SANDBOX (cutbox-door.mjs). By AI agents, Wed Nov 11 2026. No macro, syntax, notation, axiom, sorry.
-/
import Derived.Test.YtbchnheinnileaaGreatDoorRows
import GoSem.ClaimSeven
namespace Go.Proofs.YtbchnheinnileaaGreatDoor
namespace Rows

/-- THE TIED CARD OF 'laws.FnExactApplyNode'. -/
def fnExactApplyNodeCard : Claim7 := { stood := { row := fnExactApplyNodeRow, standIns := [], harness := (true, "f51f61db963713118ddbfb137ce341a2110015d450fb4b946c40710e26ec4cdd"), looks := false }, kinds := [], alts := [], laidByText := true, laidKinds := [.data, .data], laidTests := true, laidLooks := .later }
def FnExactApplyNodeCardSaid : Prop := Claim7.holds Tryz.pinned (.plain (OpenSpec.ofChange fnExactApplyNodeSpec)) fnExactApplyNodeCard

/-- THE SECOND FORM's CARD OF 'laws.FnExactApplyNode'. -/
def fnExactApplyNodeUptoCard : Claim7 := { stood := { row := fnExactApplyNodeUptoRow, standIns := [], harness := (true, "f51f61db963713118ddbfb137ce341a2110015d450fb4b946c40710e26ec4cdd"), looks := false }, kinds := [], alts := [], laidByText := true, laidKinds := [.data, .data], laidTests := true, laidLooks := .later }
def FnExactApplyNodeUptoCardSaid : Prop := Claim7.holds Tryz.pinned (.plain (OpenSpec.upto fnExactApplyNodeSpec)) fnExactApplyNodeUptoCard
end Rows
end Go.Proofs.YtbchnheinnileaaGreatDoor
