/- Texts and bits of a hash: what is read back is what was written. -/
import Derived.Test.YtiiaehajcomfaaaDoorHashText
import Derived.Test.YtiiaehajcomfaaaDoorReadHash
namespace Go.Proofs.YtiiaehajcomfaaaDoor.hashRb
set_option linter.unusedVariables false

theorem bAt_nums (xs : List Int) (i : Nat) (h0 : 0 ≤ xs.getD i 0) (h1 : xs.getD i 0 ≤ 255) : bAt (strOfNums xs) i = xs.getD i 0 := by
  unfold bAt
  rw [strOfNums_data]
  by_cases hi : i < xs.length
  · rw [List.getD_eq_getElem?_getD] at h0 h1 ⊢
    rw [List.getD_eq_getElem?_getD]
    simp [hi] at h0 h1 ⊢
    omega
  · rw [List.getD_eq_getElem?_getD, List.getElem?_eq_none (by simp; omega), List.getD_eq_getElem?_getD, List.getElem?_eq_none (by omega)]; rfl
theorem nums_bAt (s : ByteArray) (xs : List Int) (hl : xs.length = s.size) (h : ∀ i, i < s.size → xs.getD i 0 = bAt s i) : strOfNums xs = s := by
  apply ByteArray.ext
  apply Array.toList_inj.1
  rw [strOfNums_data]
  apply List.ext_getElem?
  intro i
  by_cases hi : i < xs.length
  · have hs : i < s.data.size := by have : i < s.size := by omega
                                    exact this
    have e := h i (by omega)
    unfold bAt at e
    rw [List.getD_eq_getElem?_getD, List.getElem?_eq_getElem hi, List.getD_eq_getElem?_getD, Array.getElem?_toList, Array.getElem?_eq_getElem hs] at e
    simp only [Option.getD_some] at e
    rw [List.getElem?_map, List.getElem?_eq_getElem hi, Array.getElem?_toList, Array.getElem?_eq_getElem hs]
    simp [e]
  · have hz : s.data.toList.length = s.size := rfl
    rw [List.getElem?_eq_none (by rw [List.length_map]; omega), List.getElem?_eq_none (by omega)]

open fnExactHashText (hexD hexL hexL_len)
open fnExactReadHash (nib readL readL_len got read_got allB readV readV_yes goodTo allB_yes)

theorem hexD_lo (n : Int) (h : 0 ≤ n) : 0 ≤ hexD n := by unfold hexD; split <;> omega
theorem hexD_hi (n : Int) (h : n < 16) : hexD n ≤ 255 := by unfold hexD; split <;> omega
theorem nib_hexD (n : Int) (h0 : 0 ≤ n) (h1 : n < 16) : nib (hexD n) = n := by
  unfold hexD
  split <;> (unfold nib; (repeat split) <;> omega)
theorem hexL_at (s : ByteArray) (k j : Nat) (h : j < k) : (hexL s k).getD (2 * j) 0 = hexD (bAt s j / 16) ∧ (hexL s k).getD (2 * j + 1) 0 = hexD (bAt s j % 16) := by
  induction k with
  | zero => omega
  | succ k ih =>
    have hl := hexL_len s k
    by_cases e : j = k
    · subst e
      constructor
      · rw [hexL, List.getD_eq_getElem?_getD, List.getElem?_append_right (by omega)]; simp [hl]
      · rw [hexL, List.getD_eq_getElem?_getD, List.getElem?_append_right (by omega), hl, show 2 * j + 1 - 2 * j = 1 by omega]; simp
    · have := ih (by omega)
      constructor
      · rw [hexL, List.getD_eq_getElem?_getD, List.getElem?_append_left (by omega), ← List.getD_eq_getElem?_getD]; exact this.1
      · rw [hexL, List.getD_eq_getElem?_getD, List.getElem?_append_left (by omega), ← List.getD_eq_getElem?_getD]; exact this.2
theorem text_at (s : ByteArray) (j : Nat) (h : j < 32) : nib (bAt (strOfNums (hexL s 32)) (2 * j)) = bAt s j / 16 ∧ nib (bAt (strOfNums (hexL s 32)) (2 * j + 1)) = bAt s j % 16 := by
  have hb0 := bAt_lo s j
  have hb1 := bAt_hi s j
  obtain ⟨e1, e2⟩ := hexL_at s 32 j h
  constructor
  · rw [bAt_nums _ _ (by rw [e1]; exact hexD_lo _ (by omega)) (by rw [e1]; exact hexD_hi _ (by omega)), e1, nib_hexD _ (by omega) (by omega)]
  · rw [bAt_nums _ _ (by rw [e2]; exact hexD_lo _ (by omega)) (by rw [e2]; exact hexD_hi _ (by omega)), e2, nib_hexD _ (by omega) (by omega)]
theorem read_back (s : ByteArray) (h : s.size = 32) : readV (strOfNums (hexL s 32)) = .tuple #[.string s, .int .i64 0] := by
  have hg : goodTo (strOfNums (hexL s 32)) 32 := by
    intro j hj
    have hb0 := bAt_lo s j
    rw [(text_at s j hj).1, (text_at s j hj).2]
    omega
  rw [readV_yes (by rw [strOfNums_size, hexL_len]) (allB_yes hg)]
  rw [nums_bAt s (readL (strOfNums (hexL s 32)) 32) (by rw [readL_len, h]) (fun i hi => ?_)]
  rw [read_got _ 32 i (by omega)]
  unfold got
  rw [if_pos (by omega), (text_at s i (by omega)).1, (text_at s i (by omega)).2]
  omega
end Go.Proofs.YtiiaehajcomfaaaDoor.hashRb
