/- Trees of falling sizes that leaves are put behind have the hash of all of them: pure. -/
import Derived.Test.YtnaoccndghnmpaaDoorPkA
import Derived.Test.YtnaoccndghnmpaaDoorMkG
namespace Go.Proofs.YtnaoccndghnmpaaDoor
open Go.ChangeShapes Go.WideShapes Go.ChangeAt Go.RowKit Sha
set_option linter.unusedVariables false
set_option linter.unusedSimpArgs false

/-- The peak of a row of leaves. -/
def pkOf (C : List ByteArray) : Pk := ⟨(C.length : Int), treeV C⟩
def isP (n : Nat) : Prop := n = 1 ∨ n = 2 ∨ n = 4 ∨ n = 8 ∨ n = 16 ∨ n = 32 ∨ n = 64
/-- Rows of leaves, one behind another, each as long as a power of two, each shorter than the one ahead. -/
def Falls : List (List ByteArray) → Prop
  | [] => True
  | C :: r => isP C.length ∧ (∀ D ∈ r, D.length < C.length) ∧ Falls r
theorem half_pow : ∀ s : Fin 33, (s.val = 1 ∨ s.val = 2 ∨ s.val = 4 ∨ s.val = 8 ∨ s.val = 16 ∨ s.val = 32) → half (2 * s.val) = s.val := by decide +kernel
theorem half_two {s : Nat} (h : isP s) (h2 : 2 * s ≤ 64) : half (2 * s) = s := half_pow ⟨s, by omega⟩ (by unfold isP at h; show s = 1 ∨ s = 2 ∨ s = 4 ∨ s = 8 ∨ s = 16 ∨ s = 32; omega)
theorem half_at_all : ∀ n s : Fin 65, 2 ≤ n.val → (s.val = 1 ∨ s.val = 2 ∨ s.val = 4 ∨ s.val = 8 ∨ s.val = 16 ∨ s.val = 32 ∨ s.val = 64) → s.val < n.val → n.val ≤ 2 * s.val → half n.val = s.val := by decide +kernel
theorem half_at {n s : Nat} (h2 : 2 ≤ n) (h64 : n ≤ 64) (h : isP s) (h1 : s < n) (h3 : n ≤ 2 * s) : half n = s := half_at_all ⟨n, by omega⟩ ⟨s, by omega⟩ h2 h h1 h3
/-- All behind a row are together shorter than it. -/
theorem falls_sum : ∀ (Cs : List (List ByteArray)) (s : Nat), isP s → (∀ D ∈ Cs, D.length < s) → Falls Cs → Cs.flatten.length < s
  | [], s, hs, _, _ => by unfold isP at hs; simp; omega
  | C :: r, s, hs, hD, hF => by
    have h1 := falls_sum r C.length hF.1 hF.2.1 hF.2.2
    have h2 := hD C (by simp)
    have h3 := hF.1
    rw [List.flatten_cons, List.length_append]
    unfold isP at hs h3
    omega
theorem tree_two {A B : List ByteArray} (h : isP A.length) (hA : 1 ≤ B.length) (hB : B.length ≤ A.length) (h64 : A.length + B.length ≤ 64) : treeV (A ++ B) = nodeV (treeV A) (treeV B) := by
  have hl : (A ++ B).length = A.length + B.length := List.length_append
  have hh : half (A.length + B.length) = A.length := half_at (by omega) h64 h (by omega) (by omega)
  rw [treeV_two (by omega) (by omega), hl, hh, List.take_left, List.drop_left]
/-- The root of peaks that have fallen. -/
theorem join_rev (a : List Pk) (p q : Pk) : ((p :: (a ++ [q])).take ((p :: (a ++ [q])).length - 1)).reverse.foldl joinV ((p :: (a ++ [q])).getD ((p :: (a ++ [q])).length - 1) default).h = nodeV p.h (((a ++ [q]).take ((a ++ [q]).length - 1)).reverse.foldl joinV ((a ++ [q]).getD ((a ++ [q]).length - 1) default).h) := by
  have l1 : (p :: (a ++ [q])).length - 1 = a.length + 1 := by simp
  have l2 : (a ++ [q]).length - 1 = a.length := by simp
  rw [l1, l2]
  have t1 : (p :: (a ++ [q])).take (a.length + 1) = p :: a := by simp
  have t2 : (a ++ [q]).take a.length = a := by simp
  have g1 : (p :: (a ++ [q])).getD (a.length + 1) default = q := by simp
  have g2 : (a ++ [q]).getD a.length default = q := by simp
  rw [t1, t2, g1, g2, List.reverse_cons, List.foldl_append]
  rfl
theorem root_falls : ∀ (Cs : List (List ByteArray)), Falls Cs → Cs.flatten.length ≤ 64 → 0 < Cs.length → rootV (Cs.map pkOf) = treeV Cs.flatten
  | [], _, _, h => by simp at h
  | [C], _, _, _ => by
    unfold rootV
    simp [pkOf]
  | C :: D :: r, hF, h64, _ => by
    have ih := root_falls (D :: r) hF.2.2 (by rw [List.flatten_cons, List.length_append] at h64; omega) (by simp)
    have hs := falls_sum (D :: r) C.length hF.1 hF.2.1 hF.2.2
    have hD1 : 1 ≤ D.length := by have := hF.2.2.1; unfold isP at this; omega
    have hne : (D :: r).map pkOf ≠ [] := by simp
    obtain ⟨a, q, e⟩ : ∃ a q, (D :: r).map pkOf = a ++ [q] := ⟨_, _, (List.dropLast_concat_getLast hne).symm⟩
    have e1 : (C :: D :: r).map pkOf = pkOf C :: (a ++ [q]) := by rw [← e]; rfl
    have hr : rootV (pkOf C :: (a ++ [q])) = nodeV (pkOf C).h (rootV (a ++ [q])) := by
      have n1 : ¬ (pkOf C :: (a ++ [q])).length = 0 := by simp
      have n2 : ¬ (a ++ [q]).length = 0 := by simp
      unfold rootV
      rw [if_neg n1, if_neg n2]
      exact join_rev a (pkOf C) q
    rw [e1, hr, ← e, ih, List.flatten_cons]
    rw [List.flatten_cons, List.length_append] at h64
    exact (tree_two hF.1 (by rw [List.flatten_cons, List.length_append]; omega) (by omega) h64).symm
/-- What is put behind, in rows. -/
def mrgC (Cs : List (List ByteArray)) : Nat → List ByteArray → List (List ByteArray)
  | 0, B => [B]
  | k + 1, B => if (Cs.getD k []).length = B.length then mrgC Cs k (Cs.getD k [] ++ B) else Cs.take (k + 1) ++ [B]
theorem take_snoc {α : Type} (l : List α) (d : α) (k : Nat) (h : k < l.length) : l.take (k + 1) = l.take k ++ [l.getD k d] := by
  rw [List.take_add_one, List.getD_eq_getElem?_getD, List.getElem?_eq_getElem h]; rfl
theorem mrgC_flat (Cs : List (List ByteArray)) : ∀ (k : Nat) (B : List ByteArray), k ≤ Cs.length → (mrgC Cs k B).flatten = (Cs.take k).flatten ++ B
  | 0, B, _ => by simp [mrgC]
  | k + 1, B, hk => by
    unfold mrgC
    split
    · rw [mrgC_flat Cs k _ (by omega), take_snoc Cs [] k (by omega)]
      simp
    · simp
theorem falls_app : ∀ (Cs : List (List ByteArray)) (B : List ByteArray), Falls Cs → isP B.length → (∀ D ∈ Cs, B.length < D.length) → Falls (Cs ++ [B])
  | [], B, _, h, _ => ⟨h, by simp, trivial⟩
  | C :: r, B, hF, h, hD => ⟨hF.1, fun D hm => by
      rcases List.mem_append.1 hm with h1 | h1
      · exact hF.2.1 D h1
      · obtain rfl : D = B := by simpa using h1
        exact hD C (by simp), falls_app r B hF.2.2 h (fun D hm => hD D (by simp [hm]))⟩
theorem falls_take : ∀ (Cs : List (List ByteArray)) (k : Nat), Falls Cs → Falls (Cs.take k)
  | [], k, _ => by simp [Falls]
  | C :: r, 0, _ => by simp [Falls]
  | C :: r, k + 1, hF => ⟨hF.1, fun D hm => hF.2.1 D (List.mem_of_mem_take hm), falls_take r k hF.2.2⟩
theorem falls_at : ∀ (Cs : List (List ByteArray)) (i j : Nat), Falls Cs → i < j → j < Cs.length → (Cs.getD j []).length < (Cs.getD i []).length ∧ isP (Cs.getD i []).length
  | [], i, j, _, _, h => by simp at h
  | C :: r, 0, j + 1, hF, _, h => by
    refine ⟨?_, hF.1⟩
    have hj : j < r.length := by simpa using h
    have : r.getD j [] ∈ r := by rw [List.getD_eq_getElem?_getD, List.getElem?_eq_getElem hj]; simp
    exact hF.2.1 _ this
  | C :: r, i + 1, j + 1, hF, hij, h => falls_at r i j hF.2.2 (by omega) (by simpa using h)
theorem falls_pow : ∀ (Cs : List (List ByteArray)) (i : Nat), Falls Cs → i < Cs.length → isP (Cs.getD i []).length
  | [], i, _, h => by simp at h
  | C :: r, 0, hF, _ => hF.1
  | C :: r, i + 1, hF, h => falls_pow r i hF.2.2 (by simpa using h)
theorem mrgC_falls (Cs : List (List ByteArray)) (hF : Falls Cs) : ∀ (k : Nat) (B : List ByteArray), k ≤ Cs.length → isP B.length → (∀ i, i < k → B.length ≤ (Cs.getD i []).length) → ((Cs.take k).flatten.length + B.length ≤ 64) → Falls (mrgC Cs k B)
  | 0, B, _, h, _, _ => ⟨h, by simp, trivial⟩
  | k + 1, B, hk, h, hle, hs => by
    unfold mrgC
    have hsn := take_snoc Cs [] k (by omega)
    have hp := falls_pow Cs k hF (by omega)
    split
    · rename_i e
      rw [hsn, List.flatten_append, List.length_append] at hs
      have hf1 : ([Cs.getD k []] : List (List ByteArray)).flatten.length = (Cs.getD k []).length := by simp
      rw [hf1] at hs
      refine mrgC_falls Cs hF k _ (by omega) ?_ (fun i hi => ?_) ?_
      · rw [List.length_append]
        unfold isP at h hp ⊢
        omega
      · have := falls_at Cs i k hF hi (by omega)
        rw [List.length_append]
        have h1 := this.1
        have h2 := this.2
        unfold isP at h hp h2
        omega
      · rw [List.length_append]; omega
    · rename_i e
      refine falls_app _ _ (falls_take _ _ hF) h (fun D hm => ?_)
      obtain ⟨i, hi, rfl⟩ := List.getElem_of_mem hm
      rw [List.length_take] at hi
      have e2 : (Cs.take (k + 1))[i] = Cs.getD i [] := by rw [List.getElem_take, List.getD_eq_getElem?_getD, List.getElem?_eq_getElem (by omega)]; rfl
      rw [e2]
      rcases Nat.lt_or_ge i k with hik | hik
      · have h1 := (falls_at Cs i k hF hik (by omega)).1
        have h2 := hle k (by omega)
        omega
      · obtain rfl : i = k := by omega
        have h2 := hle i (by omega)
        omega
/-- Peaks of rows are put behind as the rows are. -/
theorem mrg_rows (Cs : List (List ByteArray)) (hF : Falls Cs) : ∀ (k : Nat) (B : List ByteArray), k ≤ Cs.length → isP B.length → (Cs.take k).flatten.length + B.length ≤ 64 → mrg (Cs.map pkOf) k (pkOf B) = (mrgC Cs k B).map pkOf
  | 0, B, _, _, _ => rfl
  | k + 1, B, hk, h, hs => by
    have hsn := take_snoc Cs [] k (by omega)
    have hg : (Cs.map pkOf).getD k default = pkOf (Cs.getD k []) := by
      rw [List.getD_eq_getElem?_getD, List.getElem?_map, List.getD_eq_getElem?_getD, List.getElem?_eq_getElem (by omega)]; rfl
    have hp := falls_pow Cs k hF (by omega)
    rw [hsn, List.flatten_append, List.length_append] at hs
    have hf1 : ([Cs.getD k []] : List (List ByteArray)).flatten.length = (Cs.getD k []).length := by simp
    rw [hf1] at hs
    unfold mrg mrgC
    rw [hg]
    by_cases e : (Cs.getD k []).length = B.length
    · rw [if_pos (show (pkOf (Cs.getD k [])).s = (pkOf B).s from congrArg Int.ofNat e), if_pos e]
      have e2 : (⟨2 * (pkOf B).s, nodeV (pkOf (Cs.getD k [])).h (pkOf B).h⟩ : Pk) = pkOf (Cs.getD k [] ++ B) := by
        have e3 := tree_two (A := Cs.getD k []) (B := B) hp (by unfold isP at h; omega) (by omega) (by omega)
        unfold pkOf
        rw [e3, List.length_append]
        simp only [Pk.mk.injEq, and_true]
        omega
      rw [e2]
      exact mrg_rows Cs hF k _ (by omega) (by rw [List.length_append]; unfold isP at h hp ⊢; omega) (by rw [List.length_append]; omega)
    · rw [if_neg (show ¬ (pkOf (Cs.getD k [])).s = (pkOf B).s from fun h9 => e (Int.ofNat.inj h9)), if_neg e]
      simp [List.map_take]
end Go.Proofs.YtnaoccndghnmpaaDoor
