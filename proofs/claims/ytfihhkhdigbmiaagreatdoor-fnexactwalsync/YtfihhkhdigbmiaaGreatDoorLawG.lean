/- A small law on lists. -/
import Derived.Test.YtfihhkhdigbmiaaGreatDoorBase
namespace Go.Proofs.YtfihhkhdigbmiaaGreatDoor
theorem get_some {α : Type} {l : List α} {i n : Nat} (hl : l.length = n) (hi : i < n) : ∃ x, l[i]? = some x := by
  subst hl; exact ⟨l[i], List.getElem?_eq_getElem hi⟩
end Go.Proofs.YtfihhkhdigbmiaaGreatDoor
