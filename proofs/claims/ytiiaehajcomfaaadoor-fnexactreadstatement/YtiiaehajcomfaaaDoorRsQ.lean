/- Both ReadStatement answer alike: pure. -/
import Derived.Test.YtiiaehajcomfaaaDoorRsP
namespace Go.Proofs.YtiiaehajcomfaaaDoor.Sha
open Go.ChangeShapes Go.WideShapes Go.ChangeAt Go.RowKit
set_option linter.unusedVariables false
set_option linter.unusedSimpArgs false

set_option maxRecDepth 100000 in
theorem dig_word : ∀ m : Fin 51, (digT m.val).data.toList ≠ [] ∧ ((digT m.val).data.toList.all fun b => b.toNat != 32) = true := by decide +kernel
set_option maxRecDepth 100000 in
theorem dig_num : ∀ m : Fin 51, numT (digT m.val) = ((m.val : Int), true) := by decide +kernel
set_option maxRecDepth 100000 in
theorem dig_atoi : ∀ m : Fin 51, atoiV (digT m.val) = (m.val : Int) := by decide +kernel
theorem nib_blank {c : Int} (h : 0 ≤ fnExactReadHash.nib c) : c ≠ 32 := by
  intro e
  subst e
  revert h
  decide
theorem hx_word {s : ByteArray} (h : s.size = 32) : WordL (hxT s).data.toList := by
  have hs := hxT_size h
  rw [size_toL] at hs
  refine ⟨fun e => (by rw [e] at hs; simp at hs), fun b hb => ?_⟩
  obtain ⟨i, hi, rfl⟩ := List.getElem_of_mem hb
  have e : bAt (hxT s) i = (((hxT s).data.toList[i]).toNat : Int) := by
    rw [bAt_toL, List.getD_eq_getElem?_getD, List.getElem?_eq_getElem hi]; rfl
  have hn : bAt (hxT s) i ≠ 32 := by
    have hh : hxT s = strOfNums (fnExactHashText.hexL s 32) := by unfold hxT; rw [h]
    rw [hh]
    have ht := hashRb.text_at s (i / 2) (by omega)
    have hb0 := bAt_lo s (i / 2)
    rcases Nat.mod_two_eq_zero_or_one i with h2 | h2
    · have : i = 2 * (i / 2) := by omega
      rw [this]
      exact nib_blank (by rw [ht.1]; omega)
    · have : i = 2 * (i / 2) + 1 := by omega
      rw [this]
      exact nib_blank (by rw [ht.2]; omega)
  rw [e] at hn
  omega
theorem rdT_hx {s : ByteArray} (h : s.size = 32) : rdT (hxT s) = (s, 0) := by
  have h1 := hashRb.read_back s h
  have hh : hxT s = strOfNums (fnExactHashText.hexL s 32) := by unfold hxT; rw [h]
  rw [← hh, readV_rdT] at h1
  simp only [Value.tuple.injEq, Array.mk.injEq, List.cons.injEq, Value.string.injEq, Value.int.injEq, true_and, and_true] at h1
  exact Prod.ext h1.1 h1.2
def stmW (n : Nat) (lg mp : ByteArray) : List (List UInt8) := [[115, 105, 122, 101], (digT n).data.toList, [108, 111, 103], (hxT lg).data.toList, [109, 97, 112], (hxT mp).data.toList]
theorem stmT_join (n : Nat) (lg mp : ByteArray) : (stmT n lg mp).data.toList = joinW (stmW n lg mp) := by
  unfold stmT stmW joinW
  simp [ByteArray.data_append, joinW]
theorem stmW_words {n : Nat} {lg mp : ByteArray} (hn : n ≤ 50) (h1 : lg.size = 32) (h2 : mp.size = 32) : ∀ x ∈ stmW n lg mp, WordL x := by
  have hd := dig_word ⟨n, by omega⟩
  intro x hx
  unfold stmW at hx
  simp only [List.mem_cons, List.not_mem_nil, or_false] at hx
  rcases hx with rfl | rfl | rfl | rfl | rfl | rfl
  · exact ⟨by decide, by decide⟩
  · refine ⟨hd.1, fun b hb => ?_⟩
    have := List.all_eq_true.1 hd.2 b hb
    simpa using this
  · exact ⟨by decide, by decide⟩
  · exact hx_word h1
  · exact ⟨by decide, by decide⟩
  · exact hx_word h2
theorem stmT_size {n : Nat} {lg mp : ByteArray} (hn : n ≤ 50) (h1 : lg.size = 32) (h2 : mp.size = 32) : (stmT n lg mp).size ≤ 200 := by
  have hd := dig_size ⟨n, by omega⟩
  unfold stmT
  simp only [ByteArray.size_append, hxT_size h1, hxT_size h2]
  have e1 : (ByteArray.mk #[115, 105, 122, 101, 32]).size = 5 := rfl
  have e2 : (ByteArray.mk #[32, 108, 111, 103, 32]).size = 5 := rfl
  have e3 : (ByteArray.mk #[32, 109, 97, 112, 32]).size = 5 := rfl
  rw [e1, e2, e3]
  simp only at hd
  omega
theorem rs_eq (t : ByteArray) : rsI t = rsS t := by
  unfold rsI rsS
  by_cases h1 : 65536 < t.size
  · rw [if_pos h1, if_pos h1]
  rw [if_neg h1, if_neg h1]
  by_cases hex : ∃ z lg mp, stmB z lg mp = true ∧ stmT z.toNat lg mp = t
  · obtain ⟨z, lg, mp, hB, hT⟩ := hex
    obtain ⟨⟨z0, z1⟩, hl, hm⟩ := stmB_iff.1 hB
    have hj : t.data.toList = joinW (stmW z.toNat lg mp) := by rw [← hT]; exact stmT_join _ _ _
    have hw := stmW_words (n := z.toNat) (by omega) hl hm
    have hs := split_of (by unfold stmW; simp) hw hj
    have hws := words_of (by unfold stmW; simp) hw hj
    have hsz : t.size ≤ 200 := by rw [← hT]; exact stmT_size (by omega) hl hm
    have d1 := dig_num ⟨z.toNat, by omega⟩
    have d2 := dig_atoi ⟨z.toNat, by omega⟩
    simp only at d1 d2
    have hz : ((z.toNat : Nat) : Int) = z := by omega
    rw [hz] at d1 d2
    have g1 : (splT t).getD 1 ByteArray.empty = digT z.toNat := by rw [hs]; exact mk_back _
    have g3 : (splT t).getD 3 ByteArray.empty = hxT lg := by rw [hs]; exact mk_back _
    have g5 : (splT t).getD 5 ByteArray.empty = hxT mp := by rw [hs]; exact mk_back _
    have hl6 : (splT t).length = 6 := by rw [hs]; rfl
    have hww : wordsL t = splT t := by rw [hs, hws]
    have hsw : swOut (splT t) = (z, lg, mp) := by
      unfold swOut
      rw [if_pos hl6, g1, g3, g5, d2, rdT_hx hl, rdT_hx hm]
    rw [hsw, hww, if_pos ⟨hl6, hsz⟩, g1, g3, g5, d1, rdT_hx hl, rdT_hx hm]
    unfold rsO rsC
    rw [if_pos ⟨hB, hT⟩, if_pos ⟨rfl, rfl, rfl, hB, hT⟩]
  · have hn : ∀ z lg mp, ¬ (stmB z lg mp = true ∧ stmT z.toNat lg mp = t) := fun z lg mp h => hex ⟨z, lg, mp, h⟩
    unfold rsO
    rw [if_neg (hn _ _ _)]
    split
    · unfold rsC
      rw [if_neg (fun h => hn _ _ _ h.2.2.2)]
    · rfl
end Go.Proofs.YtiiaehajcomfaaaDoor.Sha
