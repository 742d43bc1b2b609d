/- Lists of acts: marks, held. (Written by py/slm.py.) -/
import Derived.Test.YtedfidpmehamdaaOpl
namespace Go.Proofs.Ytedfidpmehamdaa
open Go.ChangeShapes Go.WideShapes Go.ChangeAt Go.RowKit
set_option linter.unusedVariables false
set_option linter.unusedSimpArgs false

def mbo (n : Int) : Bool := n % 3 == 0
def omk (c j : Nat) : Op := ⟨(c : Int) + 4 * (j : Int), (c : Int) + 4 * (j : Int) + 1, mbo ((c : Int) + 4 * (j : Int) + 1 + 1), mtx (c + 4 * j + 3)⟩
def omkTo (c : Nat) (l : List Op) (k : Nat) : List Op := (List.range l.length).map fun j => if j < k then omk c j else l.getD j default
def omks (c n : Nat) : List Op := (List.range n).map fun j => omk c j
theorem omkTo_len (c : Nat) (l : List Op) (k : Nat) : (omkTo c l k).length = l.length := by simp [omkTo]
theorem omks_len (c n : Nat) : (omks c n).length = n := by simp [omks]
theorem omks_get (c n j : Nat) (h : j < n) : (omks c n).getD j default = omk c j := by simp [omks, List.getD_eq_getElem?_getD, h]
theorem omkTo_zero (c : Nat) (l : List Op) : omkTo c l 0 = l := by
  apply List.ext_getElem?
  intro j
  by_cases hj : j < l.length
  · simp [omkTo, hj, List.getD_eq_getElem?_getD]
  · simp [omkTo, hj]
theorem omkTo_all (c : Nat) (l : List Op) : omkTo c l l.length = omks c l.length := by
  apply List.ext_getElem?
  intro j
  by_cases hj : j < l.length
  · simp [omkTo, omks, hj]
  · simp [omkTo, omks, hj]
theorem omkTo_set (c : Nat) (l : List Op) (k : Nat) (hk : k < l.length) : (omkTo c l k).set k (omk c k) = omkTo c l (k + 1) := by
  apply List.ext_getElem?
  intro j
  rw [List.getElem?_set]
  simp only [omkTo_len]
  by_cases e : k = j
  · subst e
    rw [if_pos rfl, if_pos hk]
    simp [omkTo, hk]
  · rw [if_neg e]
    by_cases hj : j < l.length
    · by_cases h1 : j < k
      · simp [omkTo, hj, h1, show j < k + 1 by omega]
      · simp [omkTo, hj, h1, show ¬ j < k + 1 by omega]
    · simp [omkTo, hj]
end Go.Proofs.Ytedfidpmehamdaa
