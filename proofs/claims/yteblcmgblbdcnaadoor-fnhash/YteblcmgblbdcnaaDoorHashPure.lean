/- Texts and bits of a hash: what is read back is what was written. -/
import Derived.Test.YteblcmgblbdcnaaDoorHashText
import Derived.Test.YteblcmgblbdcnaaDoorReadHash
import Derived.Test.YteblcmgblbdcnaaDoorHashBits
namespace Go.Proofs.YteblcmgblbdcnaaDoor.HashPure
set_option linter.unusedVariables false

theorem bAt_nums (xs : List Int) (i : Nat) (h0 : 0 ≤ xs.getD i 0) (h1 : xs.getD i 0 ≤ 255) : bAt (strOfNums xs) i = xs.getD i 0 := by
  unfold bAt
  rw [strOfNums_data]
  by_cases hi : i < xs.length
  · rw [List.getD_eq_getElem?_getD] at h0 h1 ⊢
    rw [List.getD_eq_getElem?_getD]
    simp [hi] at h0 h1 ⊢
    omega
  · rw [List.getD_eq_getElem?_getD, List.getElem?_eq_none (by simp; omega), List.getD_eq_getElem?_getD, List.getElem?_eq_none (by omega)]; rfl
theorem nums_bAt (s : ByteArray) (xs : List Int) (hl : xs.length = s.size) (h : ∀ i, i < s.size → xs.getD i 0 = bAt s i) : strOfNums xs = s := by
  apply ByteArray.ext
  apply Array.toList_inj.1
  rw [strOfNums_data]
  apply List.ext_getElem?
  intro i
  by_cases hi : i < xs.length
  · have hs : i < s.data.size := by have : i < s.size := by omega
                                    exact this
    have e := h i (by omega)
    unfold bAt at e
    rw [List.getD_eq_getElem?_getD, List.getElem?_eq_getElem hi, List.getD_eq_getElem?_getD, Array.getElem?_toList, Array.getElem?_eq_getElem hs] at e
    simp only [Option.getD_some] at e
    rw [List.getElem?_map, List.getElem?_eq_getElem hi, Array.getElem?_toList, Array.getElem?_eq_getElem hs]
    simp [e]
  · have hz : s.data.toList.length = s.size := rfl
    rw [List.getElem?_eq_none (by rw [List.length_map]; omega), List.getElem?_eq_none (by omega)]

open fnExactHashText (hexD hexL hexL_len)
open fnExactReadHash (nib readL readL_len got read_got allB readV readV_yes goodTo allB_yes)

theorem hexD_lo (n : Int) (h : 0 ≤ n) : 0 ≤ hexD n := by unfold hexD; split <;> omega
theorem hexD_hi (n : Int) (h : n < 16) : hexD n ≤ 255 := by unfold hexD; split <;> omega
theorem nib_hexD (n : Int) (h0 : 0 ≤ n) (h1 : n < 16) : nib (hexD n) = n := by
  unfold hexD
  split <;> (unfold nib; (repeat split) <;> omega)
theorem hexL_at (s : ByteArray) (k j : Nat) (h : j < k) : (hexL s k).getD (2 * j) 0 = hexD (bAt s j / 16) ∧ (hexL s k).getD (2 * j + 1) 0 = hexD (bAt s j % 16) := by
  induction k with
  | zero => omega
  | succ k ih =>
    have hl := hexL_len s k
    by_cases e : j = k
    · subst e
      constructor
      · rw [hexL, List.getD_eq_getElem?_getD, List.getElem?_append_right (by omega)]; simp [hl]
      · rw [hexL, List.getD_eq_getElem?_getD, List.getElem?_append_right (by omega), hl, show 2 * j + 1 - 2 * j = 1 by omega]; simp
    · have := ih (by omega)
      constructor
      · rw [hexL, List.getD_eq_getElem?_getD, List.getElem?_append_left (by omega), ← List.getD_eq_getElem?_getD]; exact this.1
      · rw [hexL, List.getD_eq_getElem?_getD, List.getElem?_append_left (by omega), ← List.getD_eq_getElem?_getD]; exact this.2
theorem text_at (s : ByteArray) (j : Nat) (h : j < 32) : nib (bAt (strOfNums (hexL s 32)) (2 * j)) = bAt s j / 16 ∧ nib (bAt (strOfNums (hexL s 32)) (2 * j + 1)) = bAt s j % 16 := by
  have hb0 := bAt_lo s j
  have hb1 := bAt_hi s j
  obtain ⟨e1, e2⟩ := hexL_at s 32 j h
  constructor
  · rw [bAt_nums _ _ (by rw [e1]; exact hexD_lo _ (by omega)) (by rw [e1]; exact hexD_hi _ (by omega)), e1, nib_hexD _ (by omega) (by omega)]
  · rw [bAt_nums _ _ (by rw [e2]; exact hexD_lo _ (by omega)) (by rw [e2]; exact hexD_hi _ (by omega)), e2, nib_hexD _ (by omega) (by omega)]
theorem read_back (s : ByteArray) (h : s.size = 32) : readV (strOfNums (hexL s 32)) = .tuple #[.string s, .int .i64 0] := by
  have hg : goodTo (strOfNums (hexL s 32)) 32 := by
    intro j hj
    have hb0 := bAt_lo s j
    rw [(text_at s j hj).1, (text_at s j hj).2]
    omega
  rw [readV_yes (by rw [strOfNums_size, hexL_len]) (allB_yes hg)]
  rw [nums_bAt s (readL (strOfNums (hexL s 32)) 32) (by rw [readL_len, h]) (fun i hi => ?_)]
  rw [read_got _ 32 i (by omega)]
  unfold got
  rw [if_pos (by omega), (text_at s i (by omega)).1, (text_at s i (by omega)).2]
  omega
theorem bitL_at (s : ByteArray) (k j : Nat) (h : j < k) : (bitL s k).getD j 0 = bitOf (bAt s (j / 8)) (j % 8) := by
  induction k with
  | zero => omega
  | succ k ih =>
    have hl := bitL_len s k
    by_cases e : j = k
    · subst e
      rw [bitL, List.getD_eq_getElem?_getD, List.getElem?_append_right (by omega)]; simp [hl]
    · rw [bitL, List.getD_eq_getElem?_getD, List.getElem?_append_left (by omega), ← List.getD_eq_getElem?_getD]; exact ih (by omega)
theorem bits_at (s : ByteArray) (i m : Nat) (hi : i < 32) (hm : m < 8) : bAt (strOfNums (bitL s 256)) (8 * i + m) = 48 + bAt s i / 2 ^ (7 - m) % 2 := by
  have e := bitL_at s 256 (8 * i + m) (by omega)
  rw [show (8 * i + m) / 8 = i by omega, show (8 * i + m) % 8 = m by omega] at e
  unfold bitOf at e
  rw [bAt_nums _ _ (by rw [e]; omega) (by rw [e]; omega), e]
/-- The number of the first m bits of a byte. -/
def top (c : Int) (m : Nat) : Int := c / 2 ^ (8 - m)
theorem top_zero (c : Int) (h0 : 0 ≤ c) (h1 : c ≤ 255) : top c 0 = 0 := by unfold top; simp; omega
theorem top_all (c : Int) : top c 8 = c := by unfold top; simp
theorem top_step (c : Int) (m : Nat) (hm : m < 8) : top c (m + 1) = 2 * top c m + c / 2 ^ (7 - m) % 2 := by
  unfold top
  rcases (show m = 0 ∨ m = 1 ∨ m = 2 ∨ m = 3 ∨ m = 4 ∨ m = 5 ∨ m = 6 ∨ m = 7 by omega) with rfl | rfl | rfl | rfl | rfl | rfl | rfl | rfl <;> simp <;> omega
theorem top_lo (c : Int) (m : Nat) (h : 0 ≤ c) : 0 ≤ top c m := Int.ediv_nonneg h (Int.le_of_lt (Int.pow_pos (by omega)))
theorem top_hi (c : Int) (m : Nat) (h : 0 ≤ c) (h1 : c ≤ 255) : top c m ≤ 255 := by
  have := Int.ediv_le_self (2 ^ (8 - m)) h
  unfold top; omega
end Go.Proofs.YteblcmgblbdcnaaDoor.HashPure
