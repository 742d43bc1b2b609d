/-
  No cell of these rows narrows 'for every input' (looked for: loops, veiled, ifaces, maps, wideKeys, modest, calm, conditions, laid).
  DERIVED. THE GIVEN ROWS OF THIS SEAT. 2 by the template 'for every input the law returns true; each argument reads behind the call as it read before'; 0 by the template 'total and deterministic' (their statements: YtlicgahjdgipkakTotals.lean).
  GIVEN WITH THE SEED: the statements are not yours to turn. If you find one false, say at which input.
  Laid BY PROGRAM, IN A SANDBOX (cutbox-rows.mjs): the forced cells as the released guide's own fill.sh prints them over the translation d2a9b49211af9da8… (all of the seat's roots in one cut). By AI agents, Wed Nov 11 2026. No macro, syntax, notation, axiom, sorry.
-/
import Derived.Test.YtlicgahjdgipkakChecked
import GoSem.Claim
import GoSem.ClaimJoined
import GoSem.ClaimMapViews
import Derived.JoinedTies
import Derived.KernelRfl
namespace Go.Proofs.Ytlicgahjdgipkak
/- THE CELL 'sum', in the pinned program and in every row, IS THE sha256 OF THE DUMP (.gsa) THAT YtlicgahjdgipkakProg.lean LOADS. Nothing in Lean hashes anything: it is a label: what it is worth is what the hold of that sum in a sandbox is worth. -/
noncomputable def Try.pinned : Pinned := { name := "ytlicgahjdgipkak", sum := "d2a9b49211af9da8742d0644c15696a444fc8b05c56f642076534b341cbc3d74", checked := Try.checked }
namespace Rows
def none {H : Type} : Left H := { results := [], args := [] }

/-- 'laws.FnExactWalRead': WHATEVER THE INPUT: true; the input reads as it did. -/
def fnExactWalReadSpec : ChangeSpec := { name := "fnExactWalRead", fn := fun _ => fun
  | [d] => { results := [.lit (.bool true)], args := [d] }
  | _ => none }
def fnExactWalReadRow : OpenClaim := { program := "ytlicgahjdgipkak", sum := "d2a9b49211af9da8742d0644c15696a444fc8b05c56f642076534b341cbc3d74", func := "loop.example/g00220/laws.FnExactWalRead", spec := "fnExactWalRead", recurses := true, apart := false }
def FnExactWalReadSaid : Prop := fnExactWalReadRow.holds Try.pinned (OpenSpec.ofChange fnExactWalReadSpec)

/-- ITS FALSE NEIGHBOUR: 'it returns false'. Refute it at one input. -/
def fnExactWalReadWrong : ChangeSpec := { name := "fnExactWalRead", fn := fun _ => fun
  | [d] => { results := [.lit (.bool false)], args := [d] }
  | _ => none }
def FnExactWalReadWrongFalsely : Prop := fnExactWalReadRow.holds Try.pinned (OpenSpec.ofChange fnExactWalReadWrong)

/-- 'laws.FnExactWalPlan': WHATEVER THE INPUT: true; the input reads as it did. -/
def fnExactWalPlanSpec : ChangeSpec := { name := "fnExactWalPlan", fn := fun _ => fun
  | [d1, d2] => { results := [.lit (.bool true)], args := [d1, d2] }
  | _ => none }
def fnExactWalPlanRow : OpenClaim := { program := "ytlicgahjdgipkak", sum := "d2a9b49211af9da8742d0644c15696a444fc8b05c56f642076534b341cbc3d74", func := "loop.example/g00220/laws.FnExactWalPlan", spec := "fnExactWalPlan", recurses := true, apart := false }
def FnExactWalPlanSaid : Prop := fnExactWalPlanRow.holds Try.pinned (OpenSpec.ofChange fnExactWalPlanSpec)

/-- ITS FALSE NEIGHBOUR: 'it returns false'. Refute it at one input. -/
def fnExactWalPlanWrong : ChangeSpec := { name := "fnExactWalPlan", fn := fun _ => fun
  | [d1, d2] => { results := [.lit (.bool false)], args := [d1, d2] }
  | _ => none }
def FnExactWalPlanWrongFalsely : Prop := fnExactWalPlanRow.holds Try.pinned (OpenSpec.ofChange fnExactWalPlanWrong)

/- THE SECOND FORM. 'bulk': how many values and letters a reading holds, each counted each time it is reached (what is shared counts as often as it is met; a slice's spare places count too). A statement '..UptoSaid' is the law's where the arguments, and the package variables that the reading takes, are together of bulk at most 1048576: NARROWER than '..Said'. Prove '..Said' where nothing that the law and all that it calls make is longer than what came in: it says more and counts as full. Else prove '..UptoSaid'. A law counts once. -/
mutual
def uptoBulk {H : Type} : DataW H → Nat
  | .lit (.string bytes) => bytes.length + 1
  | .lit _ => 1
  | .nil => 1
  | .ptr d => uptoBulk d + 1
  | .slice elems spare => uptoBulkAll elems + uptoBulkAll spare + 1
  | .agg parts => uptoBulkAll parts + 1
  | .iface _ d => uptoBulk d + 1
  | .map entries => uptoBulkEntries entries + 1
  | .held _ => 1
def uptoBulkAll {H : Type} : List (DataW H) → Nat
  | [] => 0
  | d :: r => uptoBulk d + uptoBulkAll r
def uptoBulkEntries {H : Type} : List (Lit × DataW H) → Nat
  | [] => 0
  | x :: r => uptoBulkEntry x + uptoBulkEntries r
def uptoBulkEntry {H : Type} : Lit × DataW H → Nat
  | (.string bytes, d) => bytes.length + uptoBulk d + 1
  | (_, d) => uptoBulk d + 1
 end
def uptoSmall : (H : Type) → List (DataW H) → Bool := fun _ ds => decide (uptoBulkAll ds ≤ 1048576)
def OpenSpec.upto (s : _root_.Go.ChangeSpec) : _root_.Go.OpenSpec := { _root_.Go.OpenSpec.ofChange s with cond := some uptoSmall }

/-- 'laws.FnExactWalRead', WHERE WHAT IT READS IS OF BULK AT MOST 1048576: true; the input reads as it did. -/
def fnExactWalReadUptoRow : OpenClaim := { program := "ytlicgahjdgipkak", sum := "d2a9b49211af9da8742d0644c15696a444fc8b05c56f642076534b341cbc3d74", func := "loop.example/g00220/laws.FnExactWalRead", spec := "fnExactWalRead", recurses := true, apart := false, narrowed := true }
def FnExactWalReadUptoSaid : Prop := fnExactWalReadUptoRow.holds Try.pinned (OpenSpec.upto fnExactWalReadSpec)

/-- 'laws.FnExactWalPlan', WHERE WHAT IT READS IS OF BULK AT MOST 1048576: true; the input reads as it did. -/
def fnExactWalPlanUptoRow : OpenClaim := { program := "ytlicgahjdgipkak", sum := "d2a9b49211af9da8742d0644c15696a444fc8b05c56f642076534b341cbc3d74", func := "loop.example/g00220/laws.FnExactWalPlan", spec := "fnExactWalPlan", recurses := true, apart := false, narrowed := true }
def FnExactWalPlanUptoSaid : Prop := fnExactWalPlanUptoRow.holds Try.pinned (OpenSpec.upto fnExactWalPlanSpec)

end Rows
end Go.Proofs.Ytlicgahjdgipkak
