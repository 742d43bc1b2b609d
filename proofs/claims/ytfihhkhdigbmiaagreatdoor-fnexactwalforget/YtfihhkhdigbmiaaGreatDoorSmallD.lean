/- A disk that the laws measure is small. -/
import Derived.Test.YtfihhkhdigbmiaaGreatDoorFilO
import Derived.Test.YtfihhkhdigbmiaaGreatDoorFilL
namespace Go.Proofs.YtfihhkhdigbmiaaGreatDoor
open Go.ChangeShapes Go.WideShapes Go.ChangeAt Go.RowKit
set_option linter.unusedVariables false

theorem small_of (l : List Fl) (h : 0 ≤ szR l) : Small l := by
  have h1 : (l.length : Int) + wtTo l l.length ≤ 1048576 := by
    unfold szR at h
    split at h
    · assumption
    · omega
  have hw0 := wt_mono l 0 l.length (Nat.zero_le _)
  have hw00 : wtTo l 0 = 0 := rfl
  have hle : ∀ k, 0 ≤ usedTo l k ∧ usedTo l k ≤ wtTo l k := by
    intro k
    induction k with
    | zero => exact ⟨Int.le_refl _, Int.le_refl _⟩
    | succ k ih =>
      have e1 : usedTo l (k + 1) = usedTo l k + ((l.getD k default).d.size : Int) := rfl
      have e2 : wtTo l (k + 1) = wtTo l k + ((l.getD k default).n.size : Int) + ((l.getD k default).d.size : Int) := rfl
      omega
  refine ⟨by omega, fun k hk => ?_, fun i => ?_⟩
  · have := hle k
    have := wt_mono l k l.length hk
    omega
  · by_cases hi : i < l.length
    · have e2 : wtTo l (i + 1) = wtTo l i + ((l.getD i default).n.size : Int) + ((l.getD i default).d.size : Int) := rfl
      have := wt_mono l (i + 1) l.length (by omega)
      have := wt_mono l 0 i (Nat.zero_le _)
      omega
    · rw [List.getD_eq_getElem?_getD, List.getElem?_eq_none (by omega)]
      have e : (default : Fl).n.size = 0 ∧ (default : Fl).d.size = 0 := ⟨rfl, rfl⟩
      simp only [Option.getD_none]
      omega
theorem szR_cases (l : List Fl) : szR l = -1 ∨ 0 ≤ szR l := by
  unfold szR; split
  · right; omega
  · left; rfl
end Go.Proofs.YtfihhkhdigbmiaaGreatDoor
