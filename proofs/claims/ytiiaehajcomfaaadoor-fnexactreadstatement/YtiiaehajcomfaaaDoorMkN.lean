/- The worst of two codes: worstFault; NodeHash. -/
import Derived.Test.YtiiaehajcomfaaaDoorMkA
import Derived.Test.YtiiaehajcomfaaaDoorMkH
import Derived.Test.YtiiaehajcomfaaaDoorWst
namespace Go.Proofs.YtiiaehajcomfaaaDoor.Sha
open Go.ChangeShapes Go.WideShapes Go.ChangeAt Go.RowKit
set_option linter.unusedVariables false

theorem hfC_lo (s : ByteArray) : 0 ≤ hfC s := by unfold hfC; split <;> (try split) <;> omega
theorem mxI_ok {s t : ByteArray} (h : mxI (hfC s) (hfC t) = 0) : s.size = 32 ∧ t.size = 32 := by
  unfold mxI hfC at h
  constructor
  all_goals
    (repeat' split at h) <;> omega
/-- What NodeHash answers. -/
def nodeOut (a b : ByteArray) : Value := if mxI (hfC a) (hfC b) = 0 then .tuple #[.string (nodeV a b), .int .i64 0] else .tuple #[.string ⟨#[]⟩, .int .i64 (mxI (hfC a) (hfC b))]
end Go.Proofs.YtiiaehajcomfaaaDoor.Sha
