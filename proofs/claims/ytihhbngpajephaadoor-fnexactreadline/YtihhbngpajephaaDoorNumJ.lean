/- What a number's text is taken for, by reading it as the specification does and by writing it again: pure. -/
import Derived.Test.YtihhbngpajephaaDoorNumI
namespace Go.Proofs.YtihhbngpajephaaDoor.Sha
open Go.ChangeShapes Go.WideShapes Go.ChangeAt Go.RowKit
set_option linter.unusedVariables false
set_option linter.unusedSimpArgs false

theorem size_l (t : ByteArray) : t.size = t.data.toList.length := by rw [Array.length_toList]; rfl
theorem bAt_l (t : ByteArray) (i : Nat) : bAt t i = ((t.data.toList.getD i 0).toNat : Int) := rfl
theorem digs_l {t : ByteArray} : digs t t.size = true ↔ digL t.data.toList := by
  unfold digs digL
  rw [List.all_eq_true]
  constructor
  · intro h b hb
    obtain ⟨i, hi, rfl⟩ := List.mem_iff_getElem.1 hb
    have h1 := h i (List.mem_range.2 (by rw [size_l]; exact hi))
    simp only [decide_eq_true_eq, bAt_l, List.getD_eq_getElem?_getD, List.getElem?_eq_getElem hi, Option.getD_some] at h1
    omega
  · intro h i hi
    have hi' : i < t.data.toList.length := by rw [← size_l]; exact List.mem_range.1 hi
    have h1 := h _ (List.getElem_mem hi')
    simp only [decide_eq_true_eq, bAt_l, List.getD_eq_getElem?_getD, List.getElem?_eq_getElem hi', Option.getD_some]
    omega
theorem acc_l (t : ByteArray) (hd : digL t.data.toList) : ∀ k, k ≤ t.data.toList.length → accN t k = (valF 0 (t.data.toList.take k) : Int)
  | 0, _ => rfl
  | k + 1, h => by
    have hk : k < t.data.toList.length := h
    have h1 := hd _ (List.getElem_mem hk)
    have ih := acc_l t hd k (Nat.le_of_lt hk)
    have e : t.data.toList.take (k + 1) = t.data.toList.take k ++ [t.data.toList[k]] := by rw [List.take_add_one, List.getElem?_eq_getElem hk]; rfl
    have eb : bAt t k = (t.data.toList[k].toNat : Int) := by rw [bAt_l, List.getD_eq_getElem?_getD, List.getElem?_eq_getElem hk]; rfl
    show accN t k * 10 + bAt t k - 48 = _
    rw [e, valF_app, ih, eb]
    omega
theorem acc_all (t : ByteArray) (hd : digL t.data.toList) : accN t t.size = (valF 0 t.data.toList : Int) := by
  rw [size_l, acc_l t hd _ (Nat.le_refl _), List.take_length]
theorem sgn_l {t : ByteArray} (h : sgnT t = true) : t.data.toList = 45 :: (unsT t).data.toList := by
  unfold sgnT at h
  rw [Bool.and_eq_true, decide_eq_true_eq] at h
  obtain ⟨h0, h1⟩ := h
  have e : unsT t = t.extract 1 t.size := by unfold unsT; rw [if_pos (by unfold sgnT; rw [h1, decide_eq_true h0]; rfl)]
  have hx : (t.extract 1 t.size).data.toList = t.data.toList.drop 1 := by
    rw [ByteArray.data_extract, Array.toList_extract]
    show (t.data.toList.drop 1).take (t.size - 1) = _
    rw [List.take_of_length_le (by rw [List.length_drop, ← size_l]; exact Nat.le_refl _)]
  rw [e, hx]
  have hs : 0 < t.data.toList.length := by rw [← size_l]; exact h0
  cases hl : t.data.toList with
  | nil => rw [hl] at hs; exact absurd hs (by simp)
  | cons b r =>
    have hb : bAt t 0 = (b.toNat : Int) := by rw [bAt_l, hl]; rfl
    rw [beq_iff_eq, hb] at h1
    have : b = 45 := by apply UInt8.toNat_inj.1; show b.toNat = 45; omega
    rw [this]; rfl
theorem sgn_no {t : ByteArray} (h : sgnT t = false) : unsT t = t := by unfold unsT; rw [h]; rfl
theorem p18 : (10 : Nat) ^ 18 = 1000000000000000000 := by decide +kernel
theorem val_18 {l : List UInt8} (hd : digL l) (h : l.length ≤ 18) : valF 0 l < 1000000000000000000 := by
  have h1 := valF_lt l 0 hd
  have h2 : (10 : Nat) ^ l.length ≤ 10 ^ 18 := Nat.pow_le_pow_right (by decide) h
  rw [p18] at h2
  rw [show (0 + 1) * 10 ^ l.length = 10 ^ l.length from Nat.one_mul _] at h1
  exact Nat.lt_of_lt_of_le h1 h2
/-- What the specification takes a text for is a number of 18 digits, and the text its own. -/
theorem num_itoa {t : ByteArray} (h : (numT t).2 = true) : t.data.toList = Lib.itoa (numT t).1 ∧ -1000000000000000000 < (numT t).1 ∧ (numT t).1 < 1000000000000000000 := by
  by_cases hb : (unsT t).size = 0 ∨ 18 < (unsT t).size ∨ (bAt (unsT t) 0 = 48 ∧ (1 < (unsT t).size ∨ sgnT t = true))
  · rw [numT_bad hb] at h; cases h
  rw [numT_go hb] at h ⊢
  cases hd : digs (unsT t) (unsT t).size with
  | false => rw [hd] at h; cases h
  | true =>
    have hD := digs_l.1 hd
    have ha := acc_all (unsT t) hD
    rw [if_pos rfl, ha]
    have hlen := size_l (unsT t)
    have h18 := val_18 hD (by omega)
    have hz : ∀ b r, (unsT t).data.toList = b :: r → bAt (unsT t) 0 = (b.toNat : Int) := by intro b r e; rw [bAt_l, e]; rfl
    obtain ⟨n, hn⟩ : ∃ n, (unsT t).data.toList.length = n + 1 := ⟨(unsT t).data.toList.length - 1, by omega⟩
    have hback := dec_back n _ hn hD (by
      by_cases h0 : n = 0
      · exact .inl h0
      · refine .inr (fun b r e hb48 => hb ?_)
        have := hz b r e
        right; right
        exact ⟨by omega, .inl (by omega)⟩)
    cases hs : sgnT t with
    | false =>
      have eu := sgn_no hs
      rw [eu] at hback h18 ⊢
      show t.data.toList = Lib.itoa (1 * (valF 0 t.data.toList : Int)) ∧ _ ∧ _
      rw [Int.one_mul]
      refine ⟨?_, by show _ < (1 : Int) * _; omega, by show (1 : Int) * _ < _; omega⟩
      unfold Lib.itoa
      rw [if_neg (by omega), Int.toNat_natCast, hback]
    | true =>
      have el := sgn_l hs
      have hpos : 1 ≤ valF 0 (unsT t).data.toList := by
        cases hl : (unsT t).data.toList with
        | nil => rw [hl] at hn; simp at hn
        | cons b r =>
          have h1 := hz b r hl
          have h2 := hD b (by rw [hl]; simp)
          have h3 : b.toNat ≠ 48 := fun e => hb (.inr (.inr ⟨by omega, .inr hs⟩))
          have := valF_ge r (0 * 10 + (b.toNat - 48))
          show 1 ≤ valF (0 * 10 + (b.toNat - 48)) r
          omega
      generalize hv : valF 0 (unsT t).data.toList = v at *
      show t.data.toList = Lib.itoa (-1 * (v : Int)) ∧ -1000000000000000000 < (-1 : Int) * v ∧ (-1 : Int) * v < 1000000000000000000
      refine ⟨?_, by omega, by omega⟩
      unfold Lib.itoa
      rw [if_pos (by omega), show ((-1 : Int) * (v : Int)).natAbs = v by omega, hback]
      exact el
/-- Each such number's own text is taken for it. -/
theorem itoa_num {t : ByteArray} {n : Int} (h : t.data.toList = Lib.itoa n) (h0 : -1000000000000000000 < n) (h1 : n < 1000000000000000000) : numT t = (n, true) := by
  have hd9 := hide (show ∀ b r, Lib.decDigits n.natAbs = b :: r → 48 ≤ b.toNat ∧ b.toNat ≤ 57 from fun b r e => (dec_val n.natAbs).2 b (by rw [e]; simp))
  have hlen := dec_len 17 n.natAbs (by rw [p18]; omega)
  have hval := dec_val n.natAbs
  have hne := dec_ne n.natAbs
  have hhead := hide (dec_head n.natAbs)
  have hsz : 0 < t.data.toList.length := by
    rw [h]; unfold Lib.itoa
    split
    · simp
    · exact List.length_pos_iff.2 (dec_ne _)
  have hu : (unsT t).data.toList = Lib.decDigits n.natAbs ∧ (sgnT t = true ↔ n < 0) := by
    by_cases hn : n < 0
    · have hs : sgnT t = true := by
        unfold sgnT
        have e0 : bAt t 0 = 45 := by rw [bAt_l, h]; unfold Lib.itoa; rw [if_pos hn]; rfl
        rw [e0, size_l, decide_eq_true hsz]; rfl
      have el := sgn_l hs
      rw [h] at el
      unfold Lib.itoa at el
      rw [if_pos hn] at el
      exact ⟨(List.cons.inj el).2.symm, by simp [hs, hn]⟩
    · have e1 : n.toNat = n.natAbs := by omega
      have hl : t.data.toList = Lib.decDigits n.natAbs := by rw [h]; unfold Lib.itoa; rw [if_neg hn, e1]
      have hs : sgnT t = false := by
        unfold sgnT
        cases hc : Lib.decDigits n.natAbs with
        | nil => exact absurd hc hne
        | cons b r =>
          have h9 := unhide hd9 b r hc
          have e0 : bAt t 0 = (b.toNat : Int) := by rw [bAt_l, hl, hc]; rfl
          rw [e0]
          have : ((b.toNat : Int) == 45) = false := beq_eq_false_iff_ne.2 (by omega)
          rw [this, Bool.and_false]
      rw [sgn_no hs]
      exact ⟨hl, by simp [hs, hn]⟩
  obtain ⟨hul, hsg⟩ := hu
  have hus := size_l (unsT t)
  rw [hul] at hus
  have hpos : 0 < (Lib.decDigits n.natAbs).length := List.length_pos_iff.2 hne
  have hD : digL (unsT t).data.toList := by rw [hul]; exact hval.2
  have hgo : ¬ ((unsT t).size = 0 ∨ 18 < (unsT t).size ∨ (bAt (unsT t) 0 = 48 ∧ (1 < (unsT t).size ∨ sgnT t = true))) := by
    rintro (h2 | h2 | ⟨h2, h3⟩)
    · omega
    · omega
    · by_cases hz : n.natAbs = 0
      · have e0 : n = 0 := by omega
        subst e0
        rcases h3 with h3 | h3
        · rw [hus] at h3
          have : (Lib.decDigits (0 : Int).natAbs).length = 1 := by rw [Lib.decDigits, dif_pos (by decide)]; rfl
          omega
        · have := hsg.1 h3; omega
      · obtain ⟨b, r, e, hb⟩ := unhide hhead (by omega)
        have : bAt (unsT t) 0 = (b.toNat : Int) := by rw [bAt_l, hul, e]; rfl
        omega
  rw [numT_go hgo, digs_l.2 hD, if_pos rfl, acc_all _ hD, hul, hval.1]
  by_cases hn : n < 0
  · rw [if_pos (hsg.2 hn)]
    congr 1
    omega
  · rw [if_neg (fun e => hn (hsg.1 e))]
    congr 1
    omega
/-- What the library's reader tells, whatever beside it. -/
def atoiN (l : List UInt8) : Int := match Lib.atoiAll l with
  | .ok v => v
  | .«syntax» => 0
  | .range => Lib.atoiSat l
/-- The two ways tell the same texts, and the same numbers. -/
theorem num_same (t : ByteArray) : ((numT t).2 = true ↔ (Lib.itoa (atoiN t.data.toList) = t.data.toList ∧ -999999999999999999 ≤ atoiN t.data.toList ∧ atoiN t.data.toList ≤ 999999999999999999)) ∧ ((numT t).2 = true → (numT t).1 = atoiN t.data.toList) := by
  have fwd : (numT t).2 = true → atoiN t.data.toList = (numT t).1 ∧ t.data.toList = Lib.itoa (numT t).1 ∧ -1000000000000000000 < (numT t).1 ∧ (numT t).1 < 1000000000000000000 := by
    intro h
    obtain ⟨h1, h2, h3⟩ := num_itoa h
    refine ⟨?_, h1, h2, h3⟩
    unfold atoiN
    rw [h1, atoi_itoa _ h2 h3]
  refine ⟨⟨fun h => ?_, fun ⟨h1, h2, h3⟩ => ?_⟩, fun h => (fwd h).1.symm⟩
  · obtain ⟨e, h1, h2, h3⟩ := fwd h
    rw [e]
    exact ⟨h1.symm, by omega, by omega⟩
  · rw [itoa_num h1.symm (by omega) (by omega)]
end Go.Proofs.YtihhbngpajephaaDoor.Sha
