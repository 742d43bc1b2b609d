/-
  DERIVED. GIVEN WITH THE SEED: THE CARDS: each row of YtcmdilmjdnbfkaaDoorRows.lean that lists a variable, with what it lists TIED to the program's text (the seventh form; the later family's looks); each row that meets fmt, with fmt's text TOLD by the authors' own Lean function (tested against real Go, not proved from fmt's source: count such statements apart). THE CARD IS WHAT COUNTS. Prove the row's statement (the work); the ties are given (YtcmdilmjdnbfkaaDoorTie.lean); close each card by the builder's one call (the guide's Derived/Test/ToyasCard.lean, 'card_holds'). Laid BY PROGRAM, IN A SANDBOX (cutbox-door.mjs). By AI agents, Wed Nov 11 2026. No macro, syntax, notation, axiom, sorry.
-/
import Derived.Test.YtcmdilmjdnbfkaaDoorRows
import GoSem.ClaimSeven
namespace Go.Proofs.YtcmdilmjdnbfkaaDoor
namespace Rows

/-- THE TIED CARD OF 'laws.FnExactDigits'. -/
def fnExactDigitsCard : Claim7 := { stood := { row := fnExactDigitsRow, standIns := [], harness := (true, "f094db3e4279ec321911a02aa00f08c6b1ee61d53909b46ae1a1a23e59b8c102"), looks := false }, kinds := [], alts := [], laidByText := true, laidKinds := [.data, .data], laidTests := true, laidLooks := .later }
def FnExactDigitsCardSaid : Prop := Claim7.holds Tryd.pinned (.plain (OpenSpec.ofChange fnExactDigitsSpec)) fnExactDigitsCard

/-- THE TIED CARD OF 'laws.FnExactChain'. -/
def fnExactChainCard : Claim7 := { stood := { row := fnExactChainRow, standIns := [], harness := (true, "f094db3e4279ec321911a02aa00f08c6b1ee61d53909b46ae1a1a23e59b8c102"), looks := false }, kinds := [], alts := [], laidByText := true, laidKinds := [.data, .data], laidTests := true, laidLooks := .later }
def FnExactChainCardSaid : Prop := Claim7.holds Tryd.pinned (.plain (OpenSpec.ofChange fnExactChainSpec)) fnExactChainCard

/-- THE TIED CARD OF 'laws.FnExactSecretPart'. -/
def fnExactSecretPartCard : Claim7 := { stood := { row := fnExactSecretPartRow, standIns := [], harness := (true, "f094db3e4279ec321911a02aa00f08c6b1ee61d53909b46ae1a1a23e59b8c102"), looks := false }, kinds := [], alts := [], laidByText := true, laidKinds := [.data, .data], laidTests := true, laidLooks := .later }
def FnExactSecretPartCardSaid : Prop := Claim7.holds Tryd.pinned (.plain (OpenSpec.ofChange fnExactSecretPartSpec)) fnExactSecretPartCard

/-- THE TIED CARD OF 'laws.FnExactMapDrop'. -/
def fnExactMapDropCard : Claim7 := { stood := { row := fnExactMapDropRow, standIns := [], harness := (true, "f094db3e4279ec321911a02aa00f08c6b1ee61d53909b46ae1a1a23e59b8c102"), looks := false }, kinds := [], alts := [], laidByText := true, laidKinds := [.data, .data], laidTests := true, laidLooks := .later }
def FnExactMapDropCardSaid : Prop := Claim7.holds Tryd.pinned (.plain (OpenSpec.ofChange fnExactMapDropSpec)) fnExactMapDropCard

/-- THE TIED CARD OF 'laws.FnExactMapPut'. -/
def fnExactMapPutCard : Claim7 := { stood := { row := fnExactMapPutRow, standIns := [], harness := (true, "f094db3e4279ec321911a02aa00f08c6b1ee61d53909b46ae1a1a23e59b8c102"), looks := false }, kinds := [], alts := [], laidByText := true, laidKinds := [.data, .data], laidTests := true, laidLooks := .later }
def FnExactMapPutCardSaid : Prop := Claim7.holds Tryd.pinned (.plain (OpenSpec.ofChange fnExactMapPutSpec)) fnExactMapPutCard

/-- THE TIED CARD OF 'laws.FnExactMapList'. -/
def fnExactMapListCard : Claim7 := { stood := { row := fnExactMapListRow, standIns := [], harness := (true, "f094db3e4279ec321911a02aa00f08c6b1ee61d53909b46ae1a1a23e59b8c102"), looks := false }, kinds := [], alts := [], laidByText := true, laidKinds := [.data, .data], laidTests := true, laidLooks := .later }
def FnExactMapListCardSaid : Prop := Claim7.holds Tryd.pinned (.plain (OpenSpec.ofChange fnExactMapListSpec)) fnExactMapListCard

/-- THE SECOND FORM's CARD OF 'laws.FnExactDigits'. -/
def fnExactDigitsUptoCard : Claim7 := { stood := { row := fnExactDigitsUptoRow, standIns := [], harness := (true, "f094db3e4279ec321911a02aa00f08c6b1ee61d53909b46ae1a1a23e59b8c102"), looks := false }, kinds := [], alts := [], laidByText := true, laidKinds := [.data, .data], laidTests := true, laidLooks := .later }
def FnExactDigitsUptoCardSaid : Prop := Claim7.holds Tryd.pinned (.plain (OpenSpec.upto fnExactDigitsSpec)) fnExactDigitsUptoCard

/-- THE SECOND FORM's CARD OF 'laws.FnExactChain'. -/
def fnExactChainUptoCard : Claim7 := { stood := { row := fnExactChainUptoRow, standIns := [], harness := (true, "f094db3e4279ec321911a02aa00f08c6b1ee61d53909b46ae1a1a23e59b8c102"), looks := false }, kinds := [], alts := [], laidByText := true, laidKinds := [.data, .data], laidTests := true, laidLooks := .later }
def FnExactChainUptoCardSaid : Prop := Claim7.holds Tryd.pinned (.plain (OpenSpec.upto fnExactChainSpec)) fnExactChainUptoCard

/-- THE SECOND FORM's CARD OF 'laws.FnExactSecretPart'. -/
def fnExactSecretPartUptoCard : Claim7 := { stood := { row := fnExactSecretPartUptoRow, standIns := [], harness := (true, "f094db3e4279ec321911a02aa00f08c6b1ee61d53909b46ae1a1a23e59b8c102"), looks := false }, kinds := [], alts := [], laidByText := true, laidKinds := [.data, .data], laidTests := true, laidLooks := .later }
def FnExactSecretPartUptoCardSaid : Prop := Claim7.holds Tryd.pinned (.plain (OpenSpec.upto fnExactSecretPartSpec)) fnExactSecretPartUptoCard

/-- THE SECOND FORM's CARD OF 'laws.FnExactMapDrop'. -/
def fnExactMapDropUptoCard : Claim7 := { stood := { row := fnExactMapDropUptoRow, standIns := [], harness := (true, "f094db3e4279ec321911a02aa00f08c6b1ee61d53909b46ae1a1a23e59b8c102"), looks := false }, kinds := [], alts := [], laidByText := true, laidKinds := [.data, .data], laidTests := true, laidLooks := .later }
def FnExactMapDropUptoCardSaid : Prop := Claim7.holds Tryd.pinned (.plain (OpenSpec.upto fnExactMapDropSpec)) fnExactMapDropUptoCard

/-- THE SECOND FORM's CARD OF 'laws.FnExactMapPut'. -/
def fnExactMapPutUptoCard : Claim7 := { stood := { row := fnExactMapPutUptoRow, standIns := [], harness := (true, "f094db3e4279ec321911a02aa00f08c6b1ee61d53909b46ae1a1a23e59b8c102"), looks := false }, kinds := [], alts := [], laidByText := true, laidKinds := [.data, .data], laidTests := true, laidLooks := .later }
def FnExactMapPutUptoCardSaid : Prop := Claim7.holds Tryd.pinned (.plain (OpenSpec.upto fnExactMapPutSpec)) fnExactMapPutUptoCard

/-- THE SECOND FORM's CARD OF 'laws.FnExactMapList'. -/
def fnExactMapListUptoCard : Claim7 := { stood := { row := fnExactMapListUptoRow, standIns := [], harness := (true, "f094db3e4279ec321911a02aa00f08c6b1ee61d53909b46ae1a1a23e59b8c102"), looks := false }, kinds := [], alts := [], laidByText := true, laidKinds := [.data, .data], laidTests := true, laidLooks := .later }
def FnExactMapListUptoCardSaid : Prop := Claim7.holds Tryd.pinned (.plain (OpenSpec.upto fnExactMapListSpec)) fnExactMapListUptoCard
end Rows
end Go.Proofs.YtcmdilmjdnbfkaaDoor
