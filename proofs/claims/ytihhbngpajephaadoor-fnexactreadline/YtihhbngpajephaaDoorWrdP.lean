/- A text's words: pure. (Out of WrdA.) -/
import Derived.Test.YtihhbngpajephaaDoorBase
namespace Go.Proofs.YtihhbngpajephaaDoor.Sha
open Go.ChangeShapes Go.WideShapes Go.ChangeAt Go.RowKit
set_option linter.unusedVariables false
set_option linter.unusedSimpArgs false

/-- Where a word ends: at the text's end, or ahead of a blank. -/
def sepB (t : ByteArray) (i : Nat) : Bool := decide (i = t.size) || bAt t i == 32
/-- The words that end among the first i letters, and where the next one begins. -/
def wst (t : ByteArray) : Nat → List ByteArray × Nat
  | 0 => ([], 0)
  | i + 1 => if sepB t i = true then ((if (wst t i).2 < i then (wst t i).1 ++ [t.extract (wst t i).2 i] else (wst t i).1), i + 1) else wst t i
def wordsL (t : ByteArray) : List ByteArray := (wst t (t.size + 1)).1
theorem wst_no {t : ByteArray} {i : Nat} (h : sepB t i = false) : wst t (i + 1) = wst t i := by
  show (if _ then _ else _) = _; rw [if_neg (by rw [h]; simp)]
theorem wst_push {t : ByteArray} {i : Nat} (h : sepB t i = true) (h2 : (wst t i).2 < i) : wst t (i + 1) = ((wst t i).1 ++ [t.extract (wst t i).2 i], i + 1) := by
  show (if _ then _ else _) = _; rw [if_pos h, if_pos h2]
theorem wst_skip {t : ByteArray} {i : Nat} (h : sepB t i = true) (h2 : ¬ (wst t i).2 < i) : wst t (i + 1) = ((wst t i).1, i + 1) := by
  show (if _ then _ else _) = _; rw [if_pos h, if_neg h2]
theorem wst_from (t : ByteArray) : ∀ i, (wst t i).2 ≤ i ∧ (wst t i).1.length ≤ i := by
  intro i
  induction i with
  | zero => exact ⟨Nat.le_refl _, Nat.le_refl _⟩
  | succ i ih =>
    rcases Bool.eq_false_or_eq_true (sepB t i) with h | h
    · by_cases h2 : (wst t i).2 < i
      · rw [wst_push h h2]; simp; omega
      · rw [wst_skip h h2]; simp; omega
    · rw [wst_no h]; omega
end Go.Proofs.YtihhbngpajephaaDoor.Sha
