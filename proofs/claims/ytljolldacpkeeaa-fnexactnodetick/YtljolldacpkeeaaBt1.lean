/- spec.l01Bit, walked. -/
import Derived.Test.YtljolldacpkeeaaCfA
namespace Go.Proofs.Ytljolldacpkeeaa
open Go.ChangeShapes Go.WideShapes Go.ChangeAt Go.RowKit Go.Deep
set_option linter.unusedVariables false

def bitI (b : Bool) : Int := if b then 1 else 0
set_option maxRecDepth 100000 in
theorem l01Bit_any (b : Bool) (w : World) : Calls Try.prog 79 #[.bool b] w fun e w' => e = .returned (.int .i64 (bitI b)) ∧ w' = w := by
  cases b
  all_goals
    go_enter Try.func79, Try.ntmps79
    go_wp2_with fail
    go_ret
    exact ⟨rfl, rfl⟩
end Go.Proofs.Ytljolldacpkeeaa
