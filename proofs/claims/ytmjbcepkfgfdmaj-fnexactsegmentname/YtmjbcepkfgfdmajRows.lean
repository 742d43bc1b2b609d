/-
  No cell of these rows narrows 'for every input' (looked for: loops, veiled, ifaces, maps, wideKeys, modest, calm, conditions, laid).
  DERIVED. THE GIVEN ROWS OF THIS SEAT. 4 by the template 'for every input the law returns true; each argument reads behind the call as it read before'; 0 by the template 'total and deterministic' (their statements: YtmjbcepkfgfdmajTotals.lean).
  GIVEN WITH THE SEED: the statements are not yours to turn. If you find one false, say at which input.
  Laid BY PROGRAM, IN A SANDBOX (cutbox-rows.mjs): the forced cells as the released guide's own fill.sh prints them over the translation b79116339505953a… (all of the seat's roots in one cut). By AI agents, Wed Nov 11 2026. No macro, syntax, notation, axiom, sorry.
-/
import Derived.Test.YtmjbcepkfgfdmajChecked
import GoSem.Claim
import GoSem.ClaimJoined
import GoSem.ClaimMapViews
import Derived.JoinedTies
import Derived.KernelRfl
namespace Go.Proofs.Ytmjbcepkfgfdmaj
/- THE CELL 'sum', in the pinned program and in every row, IS THE sha256 OF THE DUMP (.gsa) THAT YtmjbcepkfgfdmajProg.lean LOADS. Nothing in Lean hashes anything: it is a label: what it is worth is what the hold of that sum in a sandbox is worth. -/
noncomputable def Try.pinned : Pinned := { name := "ytmjbcepkfgfdmaj", sum := "b79116339505953a097cddae66483e87bfe4340bc4b9da2722095c33c5b3fc1a", checked := Try.checked }
namespace Rows
def none {H : Type} : Left H := { results := [], args := [] }

/-- 'laws.FnExactDiskOK': WHATEVER THE INPUT: true; the input reads as it did. -/
def fnExactDiskOKSpec : ChangeSpec := { name := "fnExactDiskOK", fn := fun _ => fun
  | [d] => { results := [.lit (.bool true)], args := [d] }
  | _ => none }
def fnExactDiskOKRow : OpenClaim := { program := "ytmjbcepkfgfdmaj", sum := "b79116339505953a097cddae66483e87bfe4340bc4b9da2722095c33c5b3fc1a", func := "loop.example/g00220/laws.FnExactDiskOK", spec := "fnExactDiskOK", apart := false }
def FnExactDiskOKSaid : Prop := fnExactDiskOKRow.holds Try.pinned (OpenSpec.ofChange fnExactDiskOKSpec)

/-- ITS FALSE NEIGHBOUR: 'it returns false'. Refute it at one input. -/
def fnExactDiskOKWrong : ChangeSpec := { name := "fnExactDiskOK", fn := fun _ => fun
  | [d] => { results := [.lit (.bool false)], args := [d] }
  | _ => none }
def FnExactDiskOKWrongFalsely : Prop := fnExactDiskOKRow.holds Try.pinned (OpenSpec.ofChange fnExactDiskOKWrong)

/-- 'laws.FnExactFileData': WHATEVER THE INPUT: true; the input reads as it did. -/
def fnExactFileDataSpec : ChangeSpec := { name := "fnExactFileData", fn := fun _ => fun
  | [d1, d2] => { results := [.lit (.bool true)], args := [d1, d2] }
  | _ => none }
def fnExactFileDataRow : OpenClaim := { program := "ytmjbcepkfgfdmaj", sum := "b79116339505953a097cddae66483e87bfe4340bc4b9da2722095c33c5b3fc1a", func := "loop.example/g00220/laws.FnExactFileData", spec := "fnExactFileData", apart := false }
def FnExactFileDataSaid : Prop := fnExactFileDataRow.holds Try.pinned (OpenSpec.ofChange fnExactFileDataSpec)

/-- ITS FALSE NEIGHBOUR: 'it returns false'. Refute it at one input. -/
def fnExactFileDataWrong : ChangeSpec := { name := "fnExactFileData", fn := fun _ => fun
  | [d1, d2] => { results := [.lit (.bool false)], args := [d1, d2] }
  | _ => none }
def FnExactFileDataWrongFalsely : Prop := fnExactFileDataRow.holds Try.pinned (OpenSpec.ofChange fnExactFileDataWrong)

/-- 'laws.FnExactDiskUsed': WHATEVER THE INPUT: true; the input reads as it did. -/
def fnExactDiskUsedSpec : ChangeSpec := { name := "fnExactDiskUsed", fn := fun _ => fun
  | [d] => { results := [.lit (.bool true)], args := [d] }
  | _ => none }
def fnExactDiskUsedRow : OpenClaim := { program := "ytmjbcepkfgfdmaj", sum := "b79116339505953a097cddae66483e87bfe4340bc4b9da2722095c33c5b3fc1a", func := "loop.example/g00220/laws.FnExactDiskUsed", spec := "fnExactDiskUsed", apart := false }
def FnExactDiskUsedSaid : Prop := fnExactDiskUsedRow.holds Try.pinned (OpenSpec.ofChange fnExactDiskUsedSpec)

/-- ITS FALSE NEIGHBOUR: 'it returns false'. Refute it at one input. -/
def fnExactDiskUsedWrong : ChangeSpec := { name := "fnExactDiskUsed", fn := fun _ => fun
  | [d] => { results := [.lit (.bool false)], args := [d] }
  | _ => none }
def FnExactDiskUsedWrongFalsely : Prop := fnExactDiskUsedRow.holds Try.pinned (OpenSpec.ofChange fnExactDiskUsedWrong)

/-- 'laws.FnExactSegmentName': WHATEVER THE INPUT: true; the input reads as it did. -/
def fnExactSegmentNameSpec : ChangeSpec := { name := "fnExactSegmentName", fn := fun _ => fun
  | [d] => { results := [.lit (.bool true)], args := [d] }
  | _ => none }
def fnExactSegmentNameRow : OpenClaim := { program := "ytmjbcepkfgfdmaj", sum := "b79116339505953a097cddae66483e87bfe4340bc4b9da2722095c33c5b3fc1a", func := "loop.example/g00220/laws.FnExactSegmentName", spec := "fnExactSegmentName", recurses := true, apart := false }
def FnExactSegmentNameSaid : Prop := fnExactSegmentNameRow.holds Try.pinned (OpenSpec.ofChange fnExactSegmentNameSpec)

/-- ITS FALSE NEIGHBOUR: 'it returns false'. Refute it at one input. -/
def fnExactSegmentNameWrong : ChangeSpec := { name := "fnExactSegmentName", fn := fun _ => fun
  | [d] => { results := [.lit (.bool false)], args := [d] }
  | _ => none }
def FnExactSegmentNameWrongFalsely : Prop := fnExactSegmentNameRow.holds Try.pinned (OpenSpec.ofChange fnExactSegmentNameWrong)

/- THE SECOND FORM. 'bulk': how many values and letters a reading holds, each counted each time it is reached (what is shared counts as often as it is met; a slice's spare places count too). A statement '..UptoSaid' is the law's where the arguments, and the package variables that the reading takes, are together of bulk at most 1048576: NARROWER than '..Said'. Prove '..Said' where nothing that the law and all that it calls make is longer than what came in: it says more and counts as full. Else prove '..UptoSaid'. A law counts once. -/
mutual
def uptoBulk {H : Type} : DataW H → Nat
  | .lit (.string bytes) => bytes.length + 1
  | .lit _ => 1
  | .nil => 1
  | .ptr d => uptoBulk d + 1
  | .slice elems spare => uptoBulkAll elems + uptoBulkAll spare + 1
  | .agg parts => uptoBulkAll parts + 1
  | .iface _ d => uptoBulk d + 1
  | .map entries => uptoBulkEntries entries + 1
  | .held _ => 1
def uptoBulkAll {H : Type} : List (DataW H) → Nat
  | [] => 0
  | d :: r => uptoBulk d + uptoBulkAll r
def uptoBulkEntries {H : Type} : List (Lit × DataW H) → Nat
  | [] => 0
  | x :: r => uptoBulkEntry x + uptoBulkEntries r
def uptoBulkEntry {H : Type} : Lit × DataW H → Nat
  | (.string bytes, d) => bytes.length + uptoBulk d + 1
  | (_, d) => uptoBulk d + 1
 end
def uptoSmall : (H : Type) → List (DataW H) → Bool := fun _ ds => decide (uptoBulkAll ds ≤ 1048576)
def OpenSpec.upto (s : _root_.Go.ChangeSpec) : _root_.Go.OpenSpec := { _root_.Go.OpenSpec.ofChange s with cond := some uptoSmall }

/-- 'laws.FnExactDiskOK', WHERE WHAT IT READS IS OF BULK AT MOST 1048576: true; the input reads as it did. -/
def fnExactDiskOKUptoRow : OpenClaim := { program := "ytmjbcepkfgfdmaj", sum := "b79116339505953a097cddae66483e87bfe4340bc4b9da2722095c33c5b3fc1a", func := "loop.example/g00220/laws.FnExactDiskOK", spec := "fnExactDiskOK", apart := false, narrowed := true }
def FnExactDiskOKUptoSaid : Prop := fnExactDiskOKUptoRow.holds Try.pinned (OpenSpec.upto fnExactDiskOKSpec)

/-- 'laws.FnExactFileData', WHERE WHAT IT READS IS OF BULK AT MOST 1048576: true; the input reads as it did. -/
def fnExactFileDataUptoRow : OpenClaim := { program := "ytmjbcepkfgfdmaj", sum := "b79116339505953a097cddae66483e87bfe4340bc4b9da2722095c33c5b3fc1a", func := "loop.example/g00220/laws.FnExactFileData", spec := "fnExactFileData", apart := false, narrowed := true }
def FnExactFileDataUptoSaid : Prop := fnExactFileDataUptoRow.holds Try.pinned (OpenSpec.upto fnExactFileDataSpec)

/-- 'laws.FnExactDiskUsed', WHERE WHAT IT READS IS OF BULK AT MOST 1048576: true; the input reads as it did. -/
def fnExactDiskUsedUptoRow : OpenClaim := { program := "ytmjbcepkfgfdmaj", sum := "b79116339505953a097cddae66483e87bfe4340bc4b9da2722095c33c5b3fc1a", func := "loop.example/g00220/laws.FnExactDiskUsed", spec := "fnExactDiskUsed", apart := false, narrowed := true }
def FnExactDiskUsedUptoSaid : Prop := fnExactDiskUsedUptoRow.holds Try.pinned (OpenSpec.upto fnExactDiskUsedSpec)

/-- 'laws.FnExactSegmentName', WHERE WHAT IT READS IS OF BULK AT MOST 1048576: true; the input reads as it did. -/
def fnExactSegmentNameUptoRow : OpenClaim := { program := "ytmjbcepkfgfdmaj", sum := "b79116339505953a097cddae66483e87bfe4340bc4b9da2722095c33c5b3fc1a", func := "loop.example/g00220/laws.FnExactSegmentName", spec := "fnExactSegmentName", recurses := true, apart := false, narrowed := true }
def FnExactSegmentNameUptoSaid : Prop := fnExactSegmentNameUptoRow.holds Try.pinned (OpenSpec.upto fnExactSegmentNameSpec)

end Rows
end Go.Proofs.Ytmjbcepkfgfdmaj
