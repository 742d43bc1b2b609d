/- Rows of flags: marks laid into them, and found there. -/
import Derived.Test.YtedfidpmehamdaaGd
namespace Go.Proofs.Ytedfidpmehamdaa
open Go.ChangeShapes Go.WideShapes Go.ChangeAt Go.RowKit Go.Deep
set_option linter.unusedVariables false
set_option linter.unusedSimpArgs false

def mrow (c n : Nat) : List Bool := (List.range n).map fun (j : Nat) => mbo ((c : Int) + (j : Int))
def mTo (c : Nat) (l : List Bool) (k : Nat) : List Bool := (List.range l.length).map fun (j : Nat) => if j < k then mbo ((c : Int) + (j : Int)) else l.getD j false
theorem mrow_len (c n : Nat) : (mrow c n).length = n := by simp [mrow]
theorem mTo_len (c : Nat) (l : List Bool) (k : Nat) : (mTo c l k).length = l.length := by simp [mTo]
theorem mTo_zero (c : Nat) (l : List Bool) : mTo c l 0 = l := by
  apply List.ext_getElem?
  intro j
  by_cases hj : j < l.length
  · simp [mTo, hj, List.getD_eq_getElem?_getD]
  · simp [mTo, hj]
theorem mTo_all (c : Nat) (l : List Bool) : mTo c l l.length = mrow c l.length := by
  apply List.ext_getElem?
  intro j
  by_cases hj : j < l.length
  · simp [mTo, mrow, hj]
  · simp [mTo, mrow, hj]
theorem mTo_set (c : Nat) (l : List Bool) (k : Nat) (hk : k < l.length) : ((mTo c l k).map Value.bool).set k (.bool (mbo ((c : Int) + (k : Int)))) = (mTo c l (k + 1)).map Value.bool := by
  apply List.ext_getElem?
  intro j
  rw [List.getElem?_set]
  simp only [List.length_map, mTo_len, List.getElem?_map]
  by_cases e : k = j
  · subst e
    rw [if_pos rfl, if_pos hk]
    simp [mTo, hk]
  · rw [if_neg e]
    by_cases hj : j < l.length
    · by_cases h1 : j < k
      · simp [mTo, hj, h1, show j < k + 1 by omega]
      · simp [mTo, hj, h1, show ¬ j < k + 1 by omega]
    · simp [mTo, hj]
theorem mrow_get (c n j : Nat) (h : j < n) : (mrow c n).getD j false = mbo ((c : Int) + (j : Int)) := by simp [mrow, List.getD_eq_getElem?_getD, h]
/-- How many flags the first rows have. -/
def cntR (ls : List (List Bool)) : Nat → Nat
  | 0 => 0
  | k + 1 => cntR ls k + (ls.getD k []).length
theorem cntR_mono (ls : List (List Bool)) (i j : Nat) (h : i ≤ j) : cntR ls i ≤ cntR ls j := by
  induction j with
  | zero => obtain rfl : i = 0 := by omega
            exact Nat.le_refl _
  | succ j ih =>
    by_cases e : i = j + 1
    · subst e; exact Nat.le_refl _
    · have := ih (by omega)
      show _ ≤ cntR ls j + _
      omega
def mG (c : Nat) (ls : List (List Bool)) : Nat → List (List Bool)
  | 0 => ls
  | i + 1 => (mG c ls i).set i (mrow (c + cntR ls i) (ls.getD i []).length)
theorem mG_len (c : Nat) (ls : List (List Bool)) (i : Nat) : (mG c ls i).length = ls.length := by
  induction i with
  | zero => rfl
  | succ i ih => simp [mG, ih]
theorem mG_ge (c : Nat) (ls : List (List Bool)) (i j : Nat) (h : i ≤ j) : (mG c ls i).getD j [] = ls.getD j [] := by
  induction i with
  | zero => rfl
  | succ i ih =>
    unfold mG
    rw [List.getD_eq_getElem?_getD, List.getElem?_set_ne (by omega), ← List.getD_eq_getElem?_getD, ih (by omega)]
theorem mG_lt (c : Nat) (ls : List (List Bool)) (i j : Nat) (h : j < i) (hj : j < ls.length) : (mG c ls i).getD j [] = mrow (c + cntR ls j) (ls.getD j []).length := by
  induction i with
  | zero => omega
  | succ i ih =>
    unfold mG
    by_cases e : j = i
    · subst e
      rw [List.getD_eq_getElem?_getD, List.getElem?_set_self (by rw [mG_len]; exact hj)]; rfl
    · rw [List.getD_eq_getElem?_getD, List.getElem?_set_ne (fun x => e x.symm), ← List.getD_eq_getElem?_getD, ih (by omega)]
variable {B : Nat} {w w' : World} {v : Value} {rv : List Value} {ls : List (List Bool)}
theorem Gd.sl (h : Gd B w v rv ls) : ∃ a c, v = .slice a ls.length c := by
  rcases h.shape with ⟨rfl, h0⟩ | ⟨g, cap, rfl, _⟩
  · have := h.ln; rw [h0] at this; simp at this; rw [← this]; exact ⟨none, 0, rfl⟩
  · rw [h.ln]; exact ⟨_, _, rfl⟩
/-- The row at i, in hand. -/
theorem Gd.at_ {a : Option Addr} {n c : Nat} (h : Gd B w (.slice a n c) rv ls) (i : Nat) (hi : i < ls.length) : ∃ g, a = some ⟨g, 0, none⟩ ∧ g < w.heap.size ∧ w.cell? ⟨g, i, none⟩ = some (rv.getD i default) ∧ ∃ ra rc, rv.getD i default = .slice ra (ls.getD i []).length rc := by
  have hr : i < rv.length := by rw [h.ln]; exact hi
  rcases h.shape with ⟨_, h0⟩ | ⟨g, cap, e, _, hl⟩
  · rw [h0] at hr; simp at hr
  · simp only [Value.slice.injEq] at e
    obtain ⟨rfl, rfl, rfl⟩ := e
    refine ⟨g, rfl, hl, h.cell i hr, ?_⟩
    rcases own_shape (h.sub i hr) with ⟨e, h0⟩ | ⟨g2, cap2, e, _⟩
    · exact ⟨none, 0, by rw [e, h0]⟩
    · exact ⟨_, _, e⟩
end Go.Proofs.Ytedfidpmehamdaa
