/-
  NARROWER THAN 'FOR EVERY INPUT', by the rows' own cells (each row's printed sentence says how): FnExactWalSync: ifaces, laid · FnExactWalForget: ifaces, laid.
  DERIVED. THE GIVEN ROWS OF THIS SEAT. 2 by the template 'for every input the law returns true; each argument reads behind the call as it read before'; 0 by the template 'total and deterministic' (their statements: YtfihhkhdigbmiaaGreatDoorTotals.lean).
  GIVEN WITH THE SEED: the statements are not yours to turn. If you find one false, say at which input.
  Laid BY PROGRAM, IN A SANDBOX (cutbox-rows.mjs): the forced cells as the released guide's own fill.sh prints them over the translation e57ef95c6f906030… (all of the seat's roots in one cut). By AI agents, Wed Nov 11 2026. No macro, syntax, notation, axiom, sorry.
-/
import Derived.Test.YtfihhkhdigbmiaaGreatDoorChecked
import GoSem.Claim
import GoSem.ClaimJoined
import GoSem.ClaimMapViews
import Derived.JoinedTies
import Derived.KernelRfl
namespace Go.Proofs.YtfihhkhdigbmiaaGreatDoor
/- THE CELL 'sum', in the pinned program and in every row, IS THE sha256 OF THE DUMP (.gsa) THAT YtfihhkhdigbmiaaGreatDoorProg.lean LOADS. Nothing in Lean hashes anything: it is a label: what it is worth is what the hold of that sum in a sandbox is worth. -/
noncomputable def Tryz.pinned : Pinned := { name := "ytfihhkhdigbmiaagreatdoor", sum := "e57ef95c6f906030b6d7b26b1914af583f53fb112d48cc22b483527c4a499d50", checked := Tryz.checked }
namespace Rows
def none {H : Type} : Left H := { results := [], args := [] }

/- WHAT THE LISTED PACKAGE-LEVEL VARIABLES READ AS WHEN THE CALL BEGINS. Each datum BY PROGRAM (the guide's laid-datum.mjs) off the statement by which the dump's own 'gosem.cut.vars' lays the variable. In a bare row this is a premise. The card (YtfihhkhdigbmiaaGreatDoorCards.lean) ties it to the program's text. -/
def laid_loop_example_g00220_impl_errNoName {H : Type} : DataW H := .iface "*errors.errorString" (.ptr (.agg [.lit (.string [110, 111, 116, 32, 97, 32, 110, 97, 109, 101])]))
def laid_loop_example_g00220_impl_errNoRoom {H : Type} : DataW H := .iface "*errors.errorString" (.ptr (.agg [.lit (.string [110, 111, 32, 114, 111, 111, 109])]))
def laid_loop_example_g00220_impl_errNoFile {H : Type} : DataW H := .iface "*errors.errorString" (.ptr (.agg [.lit (.string [110, 111, 32, 115, 117, 99, 104, 32, 102, 105, 108, 101])]))
def laid_loop_example_g00220_impl_errNoByte {H : Type} : DataW H := .iface "*errors.errorString" (.ptr (.agg [.lit (.string [110, 111, 32, 115, 117, 99, 104, 32, 98, 121, 116, 101])]))
def laid_loop_example_g00220_impl_errNoAct {H : Type} : DataW H := .iface "*errors.errorString" (.ptr (.agg [.lit (.string [110, 111, 32, 115, 117, 99, 104, 32, 97, 99, 116])]))

/-- 'laws.FnExactWalSync': WHATEVER THE INPUT: true; the input reads as it did. -/
def fnExactWalSyncSpec : ChangeSpec := { name := "fnExactWalSync", vars := ["loop.example/g00220/impl.errNoAct", "loop.example/g00220/impl.errNoName", "loop.example/g00220/impl.errNoRoom", "loop.example/g00220/impl.errNoFile", "loop.example/g00220/impl.errNoByte"], fn := fun _ => fun
  | [d, g1, g2, g3, g4, g5] => { results := [.lit (.bool true)], args := [d], vars := [g1, g2, g3, g4, g5] }
  | _ => none }
def fnExactWalSyncRow : OpenClaim := { program := "ytfihhkhdigbmiaagreatdoor", sum := "e57ef95c6f906030b6d7b26b1914af583f53fb112d48cc22b483527c4a499d50", func := "loop.example/g00220/laws.FnExactWalSync", spec := "fnExactWalSync", inPlace := ["internal/reflectlite.TypeOf"], unfollowed := true, recurses := true, named := ["loop.example/g00220/impl.errNoAct", "loop.example/g00220/impl.errNoName", "loop.example/g00220/impl.errNoRoom", "loop.example/g00220/impl.errNoFile", "loop.example/g00220/impl.errNoByte"], ifaces := true, apart := false, laid := [("loop.example/g00220/impl.errNoName", laid_loop_example_g00220_impl_errNoName), ("loop.example/g00220/impl.errNoRoom", laid_loop_example_g00220_impl_errNoRoom), ("loop.example/g00220/impl.errNoFile", laid_loop_example_g00220_impl_errNoFile), ("loop.example/g00220/impl.errNoByte", laid_loop_example_g00220_impl_errNoByte), ("loop.example/g00220/impl.errNoAct", laid_loop_example_g00220_impl_errNoAct)] }
def FnExactWalSyncSaid : Prop := fnExactWalSyncRow.holds Tryz.pinned (OpenSpec.ofChange fnExactWalSyncSpec)

/-- ITS FALSE NEIGHBOUR: 'it returns false'. Refute it at one input. -/
def fnExactWalSyncWrong : ChangeSpec := { name := "fnExactWalSync", vars := ["loop.example/g00220/impl.errNoAct", "loop.example/g00220/impl.errNoName", "loop.example/g00220/impl.errNoRoom", "loop.example/g00220/impl.errNoFile", "loop.example/g00220/impl.errNoByte"], fn := fun _ => fun
  | [d, g1, g2, g3, g4, g5] => { results := [.lit (.bool false)], args := [d], vars := [g1, g2, g3, g4, g5] }
  | _ => none }
def FnExactWalSyncWrongFalsely : Prop := fnExactWalSyncRow.holds Tryz.pinned (OpenSpec.ofChange fnExactWalSyncWrong)

/-- 'laws.FnExactWalForget': WHATEVER THE INPUT: true; the input reads as it did. -/
def fnExactWalForgetSpec : ChangeSpec := { name := "fnExactWalForget", vars := ["loop.example/g00220/impl.errNoAct", "loop.example/g00220/impl.errNoName", "loop.example/g00220/impl.errNoRoom", "loop.example/g00220/impl.errNoFile", "loop.example/g00220/impl.errNoByte"], fn := fun _ => fun
  | [d1, d2, g1, g2, g3, g4, g5] => { results := [.lit (.bool true)], args := [d1, d2], vars := [g1, g2, g3, g4, g5] }
  | _ => none }
def fnExactWalForgetRow : OpenClaim := { program := "ytfihhkhdigbmiaagreatdoor", sum := "e57ef95c6f906030b6d7b26b1914af583f53fb112d48cc22b483527c4a499d50", func := "loop.example/g00220/laws.FnExactWalForget", spec := "fnExactWalForget", inPlace := ["internal/reflectlite.TypeOf"], unfollowed := true, recurses := true, named := ["loop.example/g00220/impl.errNoAct", "loop.example/g00220/impl.errNoName", "loop.example/g00220/impl.errNoRoom", "loop.example/g00220/impl.errNoFile", "loop.example/g00220/impl.errNoByte"], ifaces := true, apart := false, laid := [("loop.example/g00220/impl.errNoName", laid_loop_example_g00220_impl_errNoName), ("loop.example/g00220/impl.errNoRoom", laid_loop_example_g00220_impl_errNoRoom), ("loop.example/g00220/impl.errNoFile", laid_loop_example_g00220_impl_errNoFile), ("loop.example/g00220/impl.errNoByte", laid_loop_example_g00220_impl_errNoByte), ("loop.example/g00220/impl.errNoAct", laid_loop_example_g00220_impl_errNoAct)] }
def FnExactWalForgetSaid : Prop := fnExactWalForgetRow.holds Tryz.pinned (OpenSpec.ofChange fnExactWalForgetSpec)

/-- ITS FALSE NEIGHBOUR: 'it returns false'. Refute it at one input. -/
def fnExactWalForgetWrong : ChangeSpec := { name := "fnExactWalForget", vars := ["loop.example/g00220/impl.errNoAct", "loop.example/g00220/impl.errNoName", "loop.example/g00220/impl.errNoRoom", "loop.example/g00220/impl.errNoFile", "loop.example/g00220/impl.errNoByte"], fn := fun _ => fun
  | [d1, d2, g1, g2, g3, g4, g5] => { results := [.lit (.bool false)], args := [d1, d2], vars := [g1, g2, g3, g4, g5] }
  | _ => none }
def FnExactWalForgetWrongFalsely : Prop := fnExactWalForgetRow.holds Tryz.pinned (OpenSpec.ofChange fnExactWalForgetWrong)

/- THE SECOND FORM. 'bulk': how many values and letters a reading holds, each counted each time it is reached (what is shared counts as often as it is met; a slice's spare places count too). A statement '..UptoSaid' is the law's where the arguments, and the package variables that the reading takes, are together of bulk at most 1048576: NARROWER than '..Said'. Prove '..Said' where nothing that the law and all that it calls make is longer than what came in: it says more and counts as full. Else prove '..UptoSaid'. A law counts once. -/
mutual
def uptoBulk {H : Type} : DataW H → Nat
  | .lit (.string bytes) => bytes.length + 1
  | .lit _ => 1
  | .nil => 1
  | .ptr d => uptoBulk d + 1
  | .slice elems spare => uptoBulkAll elems + uptoBulkAll spare + 1
  | .agg parts => uptoBulkAll parts + 1
  | .iface _ d => uptoBulk d + 1
  | .map entries => uptoBulkEntries entries + 1
  | .held _ => 1
def uptoBulkAll {H : Type} : List (DataW H) → Nat
  | [] => 0
  | d :: r => uptoBulk d + uptoBulkAll r
def uptoBulkEntries {H : Type} : List (Lit × DataW H) → Nat
  | [] => 0
  | x :: r => uptoBulkEntry x + uptoBulkEntries r
def uptoBulkEntry {H : Type} : Lit × DataW H → Nat
  | (.string bytes, d) => bytes.length + uptoBulk d + 1
  | (_, d) => uptoBulk d + 1
 end
def uptoSmall : (H : Type) → List (DataW H) → Bool := fun _ ds => decide (uptoBulkAll ds ≤ 1048576)
def OpenSpec.upto (s : _root_.Go.ChangeSpec) : _root_.Go.OpenSpec := { _root_.Go.OpenSpec.ofChange s with cond := some uptoSmall }

/-- 'laws.FnExactWalSync', WHERE WHAT IT READS IS OF BULK AT MOST 1048576: true; the input reads as it did. -/
def fnExactWalSyncUptoRow : OpenClaim := { program := "ytfihhkhdigbmiaagreatdoor", sum := "e57ef95c6f906030b6d7b26b1914af583f53fb112d48cc22b483527c4a499d50", func := "loop.example/g00220/laws.FnExactWalSync", spec := "fnExactWalSync", inPlace := ["internal/reflectlite.TypeOf"], unfollowed := true, recurses := true, named := ["loop.example/g00220/impl.errNoAct", "loop.example/g00220/impl.errNoName", "loop.example/g00220/impl.errNoRoom", "loop.example/g00220/impl.errNoFile", "loop.example/g00220/impl.errNoByte"], ifaces := true, apart := false, laid := [("loop.example/g00220/impl.errNoName", laid_loop_example_g00220_impl_errNoName), ("loop.example/g00220/impl.errNoRoom", laid_loop_example_g00220_impl_errNoRoom), ("loop.example/g00220/impl.errNoFile", laid_loop_example_g00220_impl_errNoFile), ("loop.example/g00220/impl.errNoByte", laid_loop_example_g00220_impl_errNoByte), ("loop.example/g00220/impl.errNoAct", laid_loop_example_g00220_impl_errNoAct)], narrowed := true }
def FnExactWalSyncUptoSaid : Prop := fnExactWalSyncUptoRow.holds Tryz.pinned (OpenSpec.upto fnExactWalSyncSpec)

/-- 'laws.FnExactWalForget', WHERE WHAT IT READS IS OF BULK AT MOST 1048576: true; the input reads as it did. -/
def fnExactWalForgetUptoRow : OpenClaim := { program := "ytfihhkhdigbmiaagreatdoor", sum := "e57ef95c6f906030b6d7b26b1914af583f53fb112d48cc22b483527c4a499d50", func := "loop.example/g00220/laws.FnExactWalForget", spec := "fnExactWalForget", inPlace := ["internal/reflectlite.TypeOf"], unfollowed := true, recurses := true, named := ["loop.example/g00220/impl.errNoAct", "loop.example/g00220/impl.errNoName", "loop.example/g00220/impl.errNoRoom", "loop.example/g00220/impl.errNoFile", "loop.example/g00220/impl.errNoByte"], ifaces := true, apart := false, laid := [("loop.example/g00220/impl.errNoName", laid_loop_example_g00220_impl_errNoName), ("loop.example/g00220/impl.errNoRoom", laid_loop_example_g00220_impl_errNoRoom), ("loop.example/g00220/impl.errNoFile", laid_loop_example_g00220_impl_errNoFile), ("loop.example/g00220/impl.errNoByte", laid_loop_example_g00220_impl_errNoByte), ("loop.example/g00220/impl.errNoAct", laid_loop_example_g00220_impl_errNoAct)], narrowed := true }
def FnExactWalForgetUptoSaid : Prop := fnExactWalForgetUptoRow.holds Tryz.pinned (OpenSpec.upto fnExactWalForgetSpec)

end Rows
end Go.Proofs.YtfihhkhdigbmiaaGreatDoor
