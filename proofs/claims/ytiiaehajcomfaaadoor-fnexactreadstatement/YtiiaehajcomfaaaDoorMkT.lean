/- The hash of a log: treeHash, l06Tree; TreeHash. -/
import Derived.Test.YtiiaehajcomfaaaDoorMkA
import Derived.Test.YtiiaehajcomfaaaDoorMkH
namespace Go.Proofs.YtiiaehajcomfaaaDoor.Sha
open Go.ChangeShapes Go.WideShapes Go.ChangeAt Go.RowKit
set_option linter.unusedVariables false

theorem take_lt {l : List ByteArray} (h : ¬ (l.length < 2 ∨ 64 < l.length)) : (l.take (half l.length)).length < l.length := by
  have := half_facts (n := l.length) (by omega) (by omega)
  rw [List.length_take]; omega
theorem drop_lt {l : List ByteArray} (h : ¬ (l.length < 2 ∨ 64 < l.length)) : (l.drop (half l.length)).length < l.length := by
  have := half_facts (n := l.length) (by omega) (by omega)
  rw [List.length_drop]; omega
/-- The hash of a log. -/
def treeV (l : List ByteArray) : ByteArray :=
  if h : l.length < 2 ∨ 64 < l.length then (if l.length = 0 then hashV [] else l.getD 0 ByteArray.empty)
  else nodeV (treeV (l.take (half l.length))) (treeV (l.drop (half l.length)))
termination_by l.length
decreasing_by
  · exact take_lt h
  · exact drop_lt h
theorem treeV_none {l : List ByteArray} (h : l.length = 0) : treeV l = hashV [] := by rw [treeV, dif_pos (by omega), if_pos h]
theorem treeV_one {l : List ByteArray} (h : l.length = 1) : treeV l = l.getD 0 ByteArray.empty := by rw [treeV, dif_pos (by omega), if_neg (by omega)]
theorem treeV_two {l : List ByteArray} (h : 2 ≤ l.length) (h2 : l.length ≤ 64) : treeV l = nodeV (treeV (l.take (half l.length))) (treeV (l.drop (half l.length))) := by rw [treeV, dif_neg (by omega)]
def AllH (l : List ByteArray) : Prop := ∀ j, j < l.length → (l.getD j ByteArray.empty).size = 32
theorem AllH.take {l : List ByteArray} (h : AllH l) (k : Nat) : AllH (l.take k) := by
  intro j hj
  rw [List.length_take] at hj
  have := h j (by omega)
  rw [List.getD_eq_getElem?_getD] at this ⊢
  rw [List.getElem?_take, if_pos (by omega)]; exact this
theorem AllH.drop {l : List ByteArray} (h : AllH l) (k : Nat) : AllH (l.drop k) := by
  intro j hj
  rw [List.length_drop] at hj
  have := h (k + j) (by omega)
  rw [List.getD_eq_getElem?_getD] at this ⊢
  rw [List.getElem?_drop]; exact this
theorem tree_size : ∀ (n : Nat) (l : List ByteArray), l.length = n → n ≤ 64 → AllH l → (treeV l).size = 32 := by
  intro n
  induction n using Nat.strongRecOn with
  | ind n ih =>
    intro l hl hn ha
    rcases (show n = 0 ∨ n = 1 ∨ 2 ≤ n by omega) with h | h | h
    · rw [treeV_none (by omega)]; exact hash_size (by simp)
    · rw [treeV_one (by omega)]; exact ha 0 (by omega)
    · rw [treeV_two (by omega) (by omega)]
      have hf := half_facts (n := l.length) (by omega) (by omega)
      have e1 : (l.take (half l.length)).length = half l.length := by rw [List.length_take]; omega
      have e2 : (l.drop (half l.length)).length = l.length - half l.length := List.length_drop ..
      exact node_size (ih _ (by omega) _ e1 (by omega) (ha.take _)) (ih _ (by omega) _ e2 (by omega) (ha.drop _))

end Go.Proofs.YtiiaehajcomfaaaDoor.Sha
