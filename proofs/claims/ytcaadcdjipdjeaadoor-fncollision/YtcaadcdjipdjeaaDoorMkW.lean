/- spec.InclusionRoot. -/
import Derived.Test.YtcaadcdjipdjeaaDoorMkV
namespace Go.Proofs.YtcaadcdjipdjeaaDoor.Sha
open Go.ChangeShapes Go.WideShapes Go.ChangeAt Go.RowKit
set_option linter.unusedVariables false
set_option linter.unusedSimpArgs false

theorem worst_two {leaf : ByteArray} {pr : List ByteArray} (h : 65536 < leaf.size ∨ 4096 < pr.length) : mxI (hfC leaf) (codeL pr) = 2 := by
  rcases h with h | h
  · have e : hfC leaf = 2 := by unfold hfC; rw [if_pos h]
    rw [e]; rcases codeL_cases pr with e2 | e2 | e2 <;> rw [e2] <;> rfl
  · have e : codeL pr = 2 := by unfold codeL; rw [if_pos h]
    rw [e]; rcases hfC_cases leaf with e2 | e2 | e2 <;> rw [e2] <;> rfl
theorem worst_bad {leaf : ByteArray} {pr : List ByteArray} (h1 : leaf.size ≤ 65536) (h2 : pr.length ≤ 4096) (h : (decide (pr.length ≤ 64) && allH pr) = false ∨ leaf.size ≠ 32) : mxI (hfC leaf) (codeL pr) = 1 := by
  have a1 : hfC leaf = if leaf.size = 32 then 0 else 1 := by unfold hfC; rw [if_neg (by omega)]
  have a2 : codeL pr = if (decide (pr.length ≤ 64) && allH pr) = true then 0 else 1 := by unfold codeL; rw [if_neg (by omega)]; simp
  rw [a1, a2]
  rcases h with h | h
  · rw [h]; split <;> rfl
  · rw [if_neg h]; split <;> rfl
theorem worst_ok {leaf : ByteArray} {pr : List ByteArray} (h1 : leaf.size = 32) (h2 : pr.length ≤ 4096) (h : (decide (pr.length ≤ 64) && allH pr) = true) : mxI (hfC leaf) (codeL pr) = 0 ∧ pr.length ≤ 64 ∧ AllH pr := by
  have a1 : hfC leaf = 0 := by unfold hfC; rw [if_neg (by omega), if_pos h1]
  have a2 : codeL pr = 0 := by unfold codeL; rw [if_neg (by omega), if_pos (by simpa using h)]
  exact ⟨by rw [a1, a2]; rfl, codeL_ok a2⟩
end Go.Proofs.YtcaadcdjipdjeaaDoor.Sha
