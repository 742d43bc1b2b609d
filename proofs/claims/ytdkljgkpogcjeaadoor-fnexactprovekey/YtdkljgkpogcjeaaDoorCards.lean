/-
  DERIVED. GIVEN WITH THE SEED: THE CARDS: each row of YtdkljgkpogcjeaaDoorRows.lean that lists a variable, with what it lists TIED to the program's text (the seventh form; the later family's looks); each row that meets fmt, with fmt's text TOLD by the authors' own Lean function (tested against real Go, not proved from fmt's source: count such statements apart). THE CARD IS WHAT COUNTS. Prove the row's statement (the work); the ties are given (YtdkljgkpogcjeaaDoorTie.lean); close each card by the builder's one call (the guide's Derived/Test/ToyasCard.lean, 'card_holds'). Laid BY PROGRAM, IN A SANDBOX (cutbox-door.mjs). By AI agents, Wed Nov 11 2026. No macro, syntax, notation, axiom, sorry.
-/
import Derived.Test.YtdkljgkpogcjeaaDoorRows
import GoSem.ClaimSeven
namespace Go.Proofs.YtdkljgkpogcjeaaDoor
namespace Rows

/-- THE TIED CARD OF 'laws.FnExactKeyHash'. -/
def fnExactKeyHashCard : Claim7 := { stood := { row := fnExactKeyHashRow, standIns := [], harness := (true, "feeb4d3995d004709873d0285114a5caea248d4136d2f071ea041b0830828805"), looks := false }, kinds := [], alts := [], laidByText := true, laidKinds := [.data, .data], laidTests := true, laidLooks := .later }
def FnExactKeyHashCardSaid : Prop := Claim7.holds Tryd.pinned (.plain (OpenSpec.ofChange fnExactKeyHashSpec)) fnExactKeyHashCard

/-- THE TIED CARD OF 'laws.FnExactMapOK'. -/
def fnExactMapOKCard : Claim7 := { stood := { row := fnExactMapOKRow, standIns := [], harness := (true, "feeb4d3995d004709873d0285114a5caea248d4136d2f071ea041b0830828805"), looks := false }, kinds := [], alts := [], laidByText := true, laidKinds := [.data, .data], laidTests := true, laidLooks := .later }
def FnExactMapOKCardSaid : Prop := Claim7.holds Tryd.pinned (.plain (OpenSpec.ofChange fnExactMapOKSpec)) fnExactMapOKCard

/-- THE TIED CARD OF 'laws.FnExactMapPut'. -/
def fnExactMapPutCard : Claim7 := { stood := { row := fnExactMapPutRow, standIns := [], harness := (true, "feeb4d3995d004709873d0285114a5caea248d4136d2f071ea041b0830828805"), looks := false }, kinds := [], alts := [], laidByText := true, laidKinds := [.data, .data], laidTests := true, laidLooks := .later }
def FnExactMapPutCardSaid : Prop := Claim7.holds Tryd.pinned (.plain (OpenSpec.ofChange fnExactMapPutSpec)) fnExactMapPutCard

/-- THE TIED CARD OF 'laws.FnExactMapDrop'. -/
def fnExactMapDropCard : Claim7 := { stood := { row := fnExactMapDropRow, standIns := [], harness := (true, "feeb4d3995d004709873d0285114a5caea248d4136d2f071ea041b0830828805"), looks := false }, kinds := [], alts := [], laidByText := true, laidKinds := [.data, .data], laidTests := true, laidLooks := .later }
def FnExactMapDropCardSaid : Prop := Claim7.holds Tryd.pinned (.plain (OpenSpec.ofChange fnExactMapDropSpec)) fnExactMapDropCard

/-- THE TIED CARD OF 'laws.FnExactMapGet'. -/
def fnExactMapGetCard : Claim7 := { stood := { row := fnExactMapGetRow, standIns := [], harness := (true, "feeb4d3995d004709873d0285114a5caea248d4136d2f071ea041b0830828805"), looks := false }, kinds := [], alts := [], laidByText := true, laidKinds := [.data, .data], laidTests := true, laidLooks := .later }
def FnExactMapGetCardSaid : Prop := Claim7.holds Tryd.pinned (.plain (OpenSpec.ofChange fnExactMapGetSpec)) fnExactMapGetCard

/-- THE TIED CARD OF 'laws.FnExactMapList'. -/
def fnExactMapListCard : Claim7 := { stood := { row := fnExactMapListRow, standIns := [], harness := (true, "feeb4d3995d004709873d0285114a5caea248d4136d2f071ea041b0830828805"), looks := false }, kinds := [], alts := [], laidByText := true, laidKinds := [.data, .data], laidTests := true, laidLooks := .later }
def FnExactMapListCardSaid : Prop := Claim7.holds Tryd.pinned (.plain (OpenSpec.ofChange fnExactMapListSpec)) fnExactMapListCard

/-- THE TIED CARD OF 'laws.FnExactMapRoot'. -/
def fnExactMapRootCard : Claim7 := { stood := { row := fnExactMapRootRow, standIns := [], harness := (true, "feeb4d3995d004709873d0285114a5caea248d4136d2f071ea041b0830828805"), looks := false }, kinds := [], alts := [], laidByText := true, laidKinds := [.data, .data], laidTests := true, laidLooks := .later }
def FnExactMapRootCardSaid : Prop := Claim7.holds Tryd.pinned (.plain (OpenSpec.ofChange fnExactMapRootSpec)) fnExactMapRootCard

/-- THE TIED CARD OF 'laws.FnExactProveKey'. -/
def fnExactProveKeyCard : Claim7 := { stood := { row := fnExactProveKeyRow, standIns := [], harness := (true, "feeb4d3995d004709873d0285114a5caea248d4136d2f071ea041b0830828805"), looks := false }, kinds := [], alts := [], laidByText := true, laidKinds := [.data, .data], laidTests := true, laidLooks := .later }
def FnExactProveKeyCardSaid : Prop := Claim7.holds Tryd.pinned (.plain (OpenSpec.ofChange fnExactProveKeySpec)) fnExactProveKeyCard

/-- THE TIED CARD OF 'laws.FnExactCheckKey'. -/
def fnExactCheckKeyCard : Claim7 := { stood := { row := fnExactCheckKeyRow, standIns := [], harness := (true, "feeb4d3995d004709873d0285114a5caea248d4136d2f071ea041b0830828805"), looks := false }, kinds := [], alts := [], laidByText := true, laidKinds := [.data, .data], laidTests := true, laidLooks := .later }
def FnExactCheckKeyCardSaid : Prop := Claim7.holds Tryd.pinned (.plain (OpenSpec.ofChange fnExactCheckKeySpec)) fnExactCheckKeyCard

/-- THE SECOND FORM's CARD OF 'laws.FnExactKeyHash'. -/
def fnExactKeyHashUptoCard : Claim7 := { stood := { row := fnExactKeyHashUptoRow, standIns := [], harness := (true, "feeb4d3995d004709873d0285114a5caea248d4136d2f071ea041b0830828805"), looks := false }, kinds := [], alts := [], laidByText := true, laidKinds := [.data, .data], laidTests := true, laidLooks := .later }
def FnExactKeyHashUptoCardSaid : Prop := Claim7.holds Tryd.pinned (.plain (OpenSpec.upto fnExactKeyHashSpec)) fnExactKeyHashUptoCard

/-- THE SECOND FORM's CARD OF 'laws.FnExactMapOK'. -/
def fnExactMapOKUptoCard : Claim7 := { stood := { row := fnExactMapOKUptoRow, standIns := [], harness := (true, "feeb4d3995d004709873d0285114a5caea248d4136d2f071ea041b0830828805"), looks := false }, kinds := [], alts := [], laidByText := true, laidKinds := [.data, .data], laidTests := true, laidLooks := .later }
def FnExactMapOKUptoCardSaid : Prop := Claim7.holds Tryd.pinned (.plain (OpenSpec.upto fnExactMapOKSpec)) fnExactMapOKUptoCard

/-- THE SECOND FORM's CARD OF 'laws.FnExactMapPut'. -/
def fnExactMapPutUptoCard : Claim7 := { stood := { row := fnExactMapPutUptoRow, standIns := [], harness := (true, "feeb4d3995d004709873d0285114a5caea248d4136d2f071ea041b0830828805"), looks := false }, kinds := [], alts := [], laidByText := true, laidKinds := [.data, .data], laidTests := true, laidLooks := .later }
def FnExactMapPutUptoCardSaid : Prop := Claim7.holds Tryd.pinned (.plain (OpenSpec.upto fnExactMapPutSpec)) fnExactMapPutUptoCard

/-- THE SECOND FORM's CARD OF 'laws.FnExactMapDrop'. -/
def fnExactMapDropUptoCard : Claim7 := { stood := { row := fnExactMapDropUptoRow, standIns := [], harness := (true, "feeb4d3995d004709873d0285114a5caea248d4136d2f071ea041b0830828805"), looks := false }, kinds := [], alts := [], laidByText := true, laidKinds := [.data, .data], laidTests := true, laidLooks := .later }
def FnExactMapDropUptoCardSaid : Prop := Claim7.holds Tryd.pinned (.plain (OpenSpec.upto fnExactMapDropSpec)) fnExactMapDropUptoCard

/-- THE SECOND FORM's CARD OF 'laws.FnExactMapGet'. -/
def fnExactMapGetUptoCard : Claim7 := { stood := { row := fnExactMapGetUptoRow, standIns := [], harness := (true, "feeb4d3995d004709873d0285114a5caea248d4136d2f071ea041b0830828805"), looks := false }, kinds := [], alts := [], laidByText := true, laidKinds := [.data, .data], laidTests := true, laidLooks := .later }
def FnExactMapGetUptoCardSaid : Prop := Claim7.holds Tryd.pinned (.plain (OpenSpec.upto fnExactMapGetSpec)) fnExactMapGetUptoCard

/-- THE SECOND FORM's CARD OF 'laws.FnExactMapList'. -/
def fnExactMapListUptoCard : Claim7 := { stood := { row := fnExactMapListUptoRow, standIns := [], harness := (true, "feeb4d3995d004709873d0285114a5caea248d4136d2f071ea041b0830828805"), looks := false }, kinds := [], alts := [], laidByText := true, laidKinds := [.data, .data], laidTests := true, laidLooks := .later }
def FnExactMapListUptoCardSaid : Prop := Claim7.holds Tryd.pinned (.plain (OpenSpec.upto fnExactMapListSpec)) fnExactMapListUptoCard

/-- THE SECOND FORM's CARD OF 'laws.FnExactMapRoot'. -/
def fnExactMapRootUptoCard : Claim7 := { stood := { row := fnExactMapRootUptoRow, standIns := [], harness := (true, "feeb4d3995d004709873d0285114a5caea248d4136d2f071ea041b0830828805"), looks := false }, kinds := [], alts := [], laidByText := true, laidKinds := [.data, .data], laidTests := true, laidLooks := .later }
def FnExactMapRootUptoCardSaid : Prop := Claim7.holds Tryd.pinned (.plain (OpenSpec.upto fnExactMapRootSpec)) fnExactMapRootUptoCard

/-- THE SECOND FORM's CARD OF 'laws.FnExactProveKey'. -/
def fnExactProveKeyUptoCard : Claim7 := { stood := { row := fnExactProveKeyUptoRow, standIns := [], harness := (true, "feeb4d3995d004709873d0285114a5caea248d4136d2f071ea041b0830828805"), looks := false }, kinds := [], alts := [], laidByText := true, laidKinds := [.data, .data], laidTests := true, laidLooks := .later }
def FnExactProveKeyUptoCardSaid : Prop := Claim7.holds Tryd.pinned (.plain (OpenSpec.upto fnExactProveKeySpec)) fnExactProveKeyUptoCard

/-- THE SECOND FORM's CARD OF 'laws.FnExactCheckKey'. -/
def fnExactCheckKeyUptoCard : Claim7 := { stood := { row := fnExactCheckKeyUptoRow, standIns := [], harness := (true, "feeb4d3995d004709873d0285114a5caea248d4136d2f071ea041b0830828805"), looks := false }, kinds := [], alts := [], laidByText := true, laidKinds := [.data, .data], laidTests := true, laidLooks := .later }
def FnExactCheckKeyUptoCardSaid : Prop := Claim7.holds Tryd.pinned (.plain (OpenSpec.upto fnExactCheckKeySpec)) fnExactCheckKeyUptoCard
end Rows
end Go.Proofs.YtdkljgkpogcjeaaDoor
