/- A text of so many bytes: textFault. -/
import Derived.Test.YtnajpeaieeaflaaDoorIn
namespace Go.Proofs.YtnajpeaieeaflaaDoor.Sha
open Go.ChangeShapes Go.WideShapes Go.ChangeAt Go.RowKit
set_option linter.unusedVariables false

/-- The code of a text of least to most bytes. -/
def txC (n : Nat) (least most : Int) : Int := if 65536 < n then 2 else if inB n least most = true then 0 else 1
theorem txC_cases (n : Nat) (least most : Int) : txC n least most = 0 ∨ txC n least most = 1 ∨ txC n least most = 2 := by
  unfold txC; split <;> (try split) <;> simp
set_option maxRecDepth 100000 in
theorem textFault_any (s : ByteArray) (least most : Int) (w : World) (hs : s.size ≤ maxLen) :
    Calls Tryd.prog 65 #[.string s, .int .i64 least, .int .i64 most] w fun e w' => e = .returned (.int .i64 (txC s.size least most)) ∧ w' = w := by
  unfold maxLen at hs
  by_cases h1 : 65536 < s.size
  · have H := hide (show txC s.size least most = 2 by unfold txC; rw [if_pos h1])
    go_enter Tryd.func65, Tryd.ntmps65
    go_wp2_with fail
    go_ret
    exact ⟨ret_int (unhide H).symm, rfl⟩
  · have H : Hid (txC s.size least most = if inB s.size least most = true then 0 else 1) := hide (by unfold txC; rw [if_neg h1])
    have HW := hide (within_any s.size least most w)
    generalize inB s.size least most = b at *
    go_enter Tryd.func65, Tryd.ntmps65
    go_wp2_with fail
    refine (unhide HW).mono ?_
    rintro e w9 ⟨rfl, hw9⟩
    subst w9
    cases b
    · go_wp2_with fail
      go_ret
      exact ⟨ret_int (unhide H).symm, rfl⟩
    · go_wp2_with fail
      go_ret
      exact ⟨ret_int (unhide H).symm, rfl⟩
theorem txC_key {n : Nat} (h : txC n 1 24 = 0) : 1 ≤ n ∧ n ≤ 24 := by
  unfold txC at h
  split at h
  · omega
  · split at h
    · rename_i h2; have := inB_iff.1 h2; omega
    · omega
end Go.Proofs.YtnajpeaieeaflaaDoor.Sha
