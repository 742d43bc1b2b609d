/-
  DERIVED. GIVEN WITH THE SEED: THE CARDS: each row of YtcaadcdjipdjeaaDoorRows.lean that lists a variable, with what it lists TIED to the program's text (the seventh form; the later family's looks); each row that meets fmt, with fmt's text TOLD by the authors' own Lean function (tested against real Go, not proved from fmt's source: count such statements apart). THE CARD IS WHAT COUNTS. Prove the row's statement (the work); the ties are given (YtcaadcdjipdjeaaDoorTie.lean); close each card by the builder's one call (the guide's Derived/Test/ToyasCard.lean, 'card_holds'). Laid BY PROGRAM, IN A SANDBOX (cutbox-door.mjs). By AI agents, Wed Nov 11 2026. No macro, syntax, notation, axiom, sorry.
-/
import Derived.Test.YtcaadcdjipdjeaaDoorRows
import GoSem.ClaimSeven
namespace Go.Proofs.YtcaadcdjipdjeaaDoor
namespace Rows

/-- THE TIED CARD OF 'laws.FnCollision'. -/
def fnCollisionCard : Claim7 := { stood := { row := fnCollisionRow, standIns := [], harness := (true, "b0c5b7a113394897afebc2c78887d33495400273311de454c11e5ab75c9d00eb"), looks := false }, kinds := [], alts := [], laidByText := true, laidKinds := [.data, .data], laidTests := true, laidLooks := .later }
def FnCollisionCardSaid : Prop := Claim7.holds Tryd.pinned (.plain (OpenSpec.ofChange fnCollisionSpec)) fnCollisionCard

/-- THE SECOND FORM's CARD OF 'laws.FnCollision'. -/
def fnCollisionUptoCard : Claim7 := { stood := { row := fnCollisionUptoRow, standIns := [], harness := (true, "b0c5b7a113394897afebc2c78887d33495400273311de454c11e5ab75c9d00eb"), looks := false }, kinds := [], alts := [], laidByText := true, laidKinds := [.data, .data], laidTests := true, laidLooks := .later }
def FnCollisionUptoCardSaid : Prop := Claim7.holds Tryd.pinned (.plain (OpenSpec.upto fnCollisionSpec)) fnCollisionUptoCard
end Rows
end Go.Proofs.YtcaadcdjipdjeaaDoor
