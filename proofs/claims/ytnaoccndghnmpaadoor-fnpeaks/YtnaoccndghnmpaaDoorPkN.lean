/- Peaks of rows that fall are right, and are as many as the number of leaves has bits: pure. -/
import Derived.Test.YtnaoccndghnmpaaDoorPkP
namespace Go.Proofs.YtnaoccndghnmpaaDoor
open Go.ChangeShapes Go.WideShapes Go.ChangeAt Go.RowKit Sha
set_option linter.unusedVariables false
set_option linter.unusedSimpArgs false

def bitsF : Nat → Nat → Nat
  | 0, _ => 0
  | f + 1, n => n % 2 + bitsF f (n / 2)
theorem bits_one : ∀ s n : Fin 65, (s.val = 1 ∨ s.val = 2 ∨ s.val = 4 ∨ s.val = 8 ∨ s.val = 16 ∨ s.val = 32 ∨ s.val = 64) → n.val < s.val → bitsF 8 (s.val + n.val) = 1 + bitsF 8 n.val := by decide +kernel
theorem bits_rows : ∀ (Cs : List (List ByteArray)), Falls Cs → Cs.flatten.length ≤ 64 → bitsF 8 Cs.flatten.length = Cs.length
  | [], _, _ => rfl
  | C :: r, hF, h64 => by
    have hs := falls_sum r C.length hF.1 hF.2.1 hF.2.2
    rw [List.flatten_cons, List.length_append] at h64
    have ih := bits_rows r hF.2.2 (by omega)
    rw [List.flatten_cons, List.length_append, bits_one ⟨C.length, by omega⟩ ⟨r.flatten.length, by omega⟩ hF.1 hs, ih, List.length_cons]
    omega
theorem get_rows (Cs : List (List ByteArray)) (k : Nat) (h : k < Cs.length) : (Cs.map pkOf).getD k default = pkOf (Cs.getD k []) := by
  rw [List.getD_eq_getElem?_getD, List.getElem?_map, List.getD_eq_getElem?_getD, List.getElem?_eq_getElem h]; rfl
theorem sum_rows (Cs : List (List ByteArray)) : ∀ k, k ≤ Cs.length → sumTo (Cs.map pkOf) k = ((Cs.take k).flatten.length : Int)
  | 0, _ => by simp [sumTo]
  | k + 1, h => by
    rw [sumTo, sum_rows Cs k (by omega), get_rows Cs k (by omega), take_snoc Cs [] k (by omega), List.flatten_append, List.length_append]
    simp [pkOf]
theorem pow_rows : ∀ n : Fin 65, (n.val = 1 ∨ n.val = 2 ∨ n.val = 4 ∨ n.val = 8 ∨ n.val = 16 ∨ n.val = 32 ∨ n.val = 64) → pow7 (n.val : Int) = true := by decide +kernel
theorem allH_mem {l : List ByteArray} : AllH l ↔ ∀ x ∈ l, x.size = 32 := by
  constructor
  · intro h x hx
    obtain ⟨i, hi, rfl⟩ := List.getElem_of_mem hx
    have := h i hi
    rwa [List.getD_eq_getElem?_getD, List.getElem?_eq_getElem hi] at this
  · intro h j hj
    rw [List.getD_eq_getElem?_getD, List.getElem?_eq_getElem hj]
    exact h _ (List.getElem_mem hj)
theorem ok_rows (Cs : List (List ByteArray)) (hF : Falls Cs) (h64 : Cs.flatten.length ≤ 64) (hA : AllH Cs.flatten) : ∀ k, k ≤ Cs.length → okTo (Cs.map pkOf) k = true
  | 0, _ => rfl
  | k + 1, h => by
    have hk : k < Cs.length := by omega
    have hp := falls_pow Cs k hF hk
    have hm : Cs.getD k [] ∈ Cs := by rw [List.getD_eq_getElem?_getD, List.getElem?_eq_getElem hk]; simp
    have hC : AllH (Cs.getD k []) := allH_mem.2 (fun x hx => allH_mem.1 hA x (List.mem_flatten.2 ⟨_, hm, hx⟩))
    have hl : (Cs.getD k []).length ≤ 64 := by unfold isP at hp; omega
    unfold okTo
    rw [ok_rows Cs hF h64 hA k (by omega), get_rows Cs k hk]
    have a1 : pow7 (pkOf (Cs.getD k [])).s = true := pow_rows ⟨(Cs.getD k []).length, by omega⟩ hp
    have a2 : (pkOf (Cs.getD k [])).h.size = 32 := tree_size _ _ rfl hl hC
    rw [a1, decide_eq_true a2]
    by_cases h0 : k = 0
    · simp [h0]
    · rw [get_rows Cs (k - 1) (by omega)]
      have := (falls_at Cs (k - 1) k hF (by omega) hk).1
      have a3 : (pkOf (Cs.getD k [])).s < (pkOf (Cs.getD (k - 1) [])).s := by unfold pkOf; show ((Cs.getD k []).length : Int) < ((Cs.getD (k - 1) []).length : Int); omega
      rw [decide_eq_true a3]
      simp
/-- What AddPeak answers for the peaks of rows. -/
theorem add_rows (Cs : List (List ByteArray)) (leaf : ByteArray) (hF : Falls Cs) (h64 : Cs.flatten.length < 64) (hA : AllH Cs.flatten) (hs : leaf.size = 32) :
    addOut (Cs.map pkOf) leaf = ((mrgC Cs Cs.length [leaf]).map pkOf, 0) ∧ Falls (mrgC Cs Cs.length [leaf]) ∧ (mrgC Cs Cs.length [leaf]).flatten = Cs.flatten ++ [leaf] := by
  have hlen : (Cs.map pkOf).length = Cs.length := by simp
  have hok := ok_rows Cs hF (by omega) hA Cs.length (Nat.le_refl _)
  have hsum := sum_rows Cs Cs.length (Nat.le_refl _)
  rw [List.take_length] at hsum
  have hpb : peaksB (Cs.map pkOf) = true := by
    unfold peaksB
    rw [hlen, hok, hsum, Bool.true_and, decide_eq_true (by omega)]
  have hll := ok_len (hlen ▸ hok : okTo (Cs.map pkOf) (Cs.map pkOf).length = true)
  have e0 : mxI (pfC (Cs.map pkOf)) (hfC leaf) = 0 := by
    unfold mxI pfC hfC
    rw [if_neg (show ¬ 4096 < (Cs.map pkOf).length by omega), if_pos hpb, if_neg (show ¬ 65536 < leaf.size by omega), if_pos hs]
    rfl
  have hpk : pkOf [leaf] = ⟨1, leaf⟩ := by
    unfold pkOf
    rw [treeV_one rfl]
    rfl
  have h1 : isP ([leaf] : List ByteArray).length := .inl rfl
  refine ⟨?_, mrgC_falls Cs hF _ _ (Nat.le_refl _) h1 (fun i hi => ?_) (by rw [List.take_length, List.length_singleton]; omega), by rw [mrgC_flat Cs _ _ (Nat.le_refl _), List.take_length]⟩
  · unfold addOut
    rw [if_pos e0, hlen, hsum, if_neg (by omega), ← hpk, mrg_rows Cs hF Cs.length [leaf] (Nat.le_refl _) h1 (by rw [List.take_length, List.length_singleton]; omega)]
  · have := falls_pow Cs i hF hi
    unfold isP at this
    rw [List.length_singleton]
    omega
end Go.Proofs.YtnaoccndghnmpaaDoor
