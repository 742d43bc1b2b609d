/- A text of so many bytes: textFault. -/
import Derived.Test.YtinpoaghedhknaaDoorIn
namespace Go.Proofs.YtinpoaghedhknaaDoor.Sha
open Go.ChangeShapes Go.WideShapes Go.ChangeAt Go.RowKit
set_option linter.unusedVariables false

/-- The code of a text of least to most bytes. -/
def txC (n : Nat) (least most : Int) : Int := if 65536 < n then 2 else if inB n least most = true then 0 else 1
theorem txC_cases (n : Nat) (least most : Int) : txC n least most = 0 ∨ txC n least most = 1 ∨ txC n least most = 2 := by
  unfold txC; split <;> (try split) <;> simp
theorem txC_key {n : Nat} (h : txC n 1 24 = 0) : 1 ≤ n ∧ n ≤ 24 := by
  unfold txC at h
  split at h
  · omega
  · split at h
    · rename_i h2; have := inB_iff.1 h2; omega
    · omega
end Go.Proofs.YtinpoaghedhknaaDoor.Sha
