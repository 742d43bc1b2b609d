/- What is no hash: hashFault, notHash. -/
import Derived.Test.YtcmdilmjdnbfkaaDoorIn
namespace Go.Proofs.YtcmdilmjdnbfkaaDoor
open Go.ChangeShapes Go.WideShapes Go.ChangeAt Go.RowKit
set_option linter.unusedVariables false

/-- The code of a text that was handed in as a hash. -/
def hfC (s : ByteArray) : Int := if 65536 < s.size then 2 else if s.size = 32 then 0 else 1
set_option maxRecDepth 100000 in
theorem hashFault_any (s : ByteArray) (w : World) (hs : s.size ≤ maxLen) :
    Calls Tryd.prog 37 #[.string s] w fun e w' => e = .returned (.int .i64 (hfC s)) ∧ w' = w := by
  unfold maxLen at hs
  by_cases h1 : 65536 < s.size
  · have H : Hid (hfC s = 2) := hide (by unfold hfC; rw [if_pos h1])
    go_enter Tryd.func37, Tryd.ntmps37
    go_wp2_with fail
    go_ret
    exact ⟨ret_int (unhide H).symm, rfl⟩
  · by_cases h2 : s.size = 32
    · have H : Hid (hfC s = 0) := hide (by unfold hfC; rw [if_neg h1, if_pos h2])
      go_enter Tryd.func37, Tryd.ntmps37
      go_wp2_with fail
      go_ret
      exact ⟨ret_int (unhide H).symm, rfl⟩
    · have H : Hid (hfC s = 1) := hide (by unfold hfC; rw [if_neg h1, if_neg h2])
      have h3 : (s.size : Int) ≠ 32 := by omega
      go_enter Tryd.func37, Tryd.ntmps37
      go_wp2_with fail
      go_ret
      exact ⟨ret_int (unhide H).symm, rfl⟩
end Go.Proofs.YtcmdilmjdnbfkaaDoor
