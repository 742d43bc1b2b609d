/- spec.Check32, walked. -/
import Derived.Test.YteblcmgblbdcnaaDoorCrc
namespace Go.Proofs.YteblcmgblbdcnaaDoor.fnExactCheck32
open Go.ChangeShapes Go.WideShapes Go.ChangeAt Go.RowKit
set_option linter.unusedVariables false

theorem specCheck_any (v : Value) (l : List Int) (w : World) (h : Bytes w v l) :
    Calls Tryd.prog 12 #[v] w fun e w' => e = .returned (.int .i64 (crcV l)) ∧ w' = w := by
  have HB := hide h
  obtain ⟨a, cap, rfl, hm, hc, hr⟩ := h
  clear hc hr
  unfold maxLen at hm
  by_cases hs : 65536 < l.length
  · have H := hide (show crcV l = 0 by unfold crcV; rw [if_pos hs])
    go_enter Tryd.func12, Tryd.ntmps12
    go_wp2_with fail
    go_ret
    exact ⟨ret_int (unhide H).symm, rfl⟩
  · have H := hide (show crcV l = _ by unfold crcV; rw [if_neg hs])
    go_enter Tryd.func12, Tryd.ntmps12
    go_wp2_with fail
    refine (l01Check_any _ l _ (unhide HB) (by omega)).mono ?_
    rintro e w' ⟨rfl, rfl⟩
    go_wp2_with fail
    go_ret
    exact ⟨ret_int (unhide H).symm, rfl⟩
end Go.Proofs.YteblcmgblbdcnaaDoor.fnExactCheck32
