/- The proof that a log grew leads to the hash of its first leaves and to the hash of all: pure. -/
import Derived.Test.YtnaoccndghnmpaaDoorMkM
import Derived.Test.YtnaoccndghnmpaaDoorMkC
import Derived.Test.YtnaoccndghnmpaaDoorMkY
namespace Go.Proofs.YtnaoccndghnmpaaDoor.Sha
open Go.ChangeShapes Go.WideShapes Go.ChangeAt Go.RowKit
set_option linter.unusedVariables false

theorem half_mid_all : ∀ n m : Fin 65, 2 ≤ n.val → half n.val < m.val → m.val ≤ n.val → half m.val = half n.val := by decide +kernel
theorem half_mid {n m : Nat} (h : 2 ≤ n) (h64 : n ≤ 64) (h1 : half n < m) (h2 : m ≤ n) : half m = half n := half_mid_all ⟨n, by omega⟩ ⟨m, by omega⟩ h h1 h2
theorem both_tree : ∀ (n : Nat) (l : List ByteArray) (m : Nat) (kn : Bool) (root : ByteArray), l.length = n → 1 ≤ m → m ≤ n → n ≤ 64 → (kn = true → root = treeV (l.take m)) →
    bothV root m n (subV l m kn) kn = ((treeV (l.take m), treeV l), true) := by
  intro n
  induction n using Nat.strongRecOn with
  | ind n ih =>
    intro l m kn root hl h1 hmn h64 hr
    by_cases hm : m = n
    · subst hm
      have et : l.take m = l := by rw [← hl]; exact List.take_length
      rw [et] at hr ⊢
      rw [bothV_all, subV_all hl.symm]
      cases kn
      · simp
      · rw [hr rfl]
        simp
    · obtain ⟨a1, a2, a3⟩ := half_facts (n := n) (by omega) h64
      have e2 := treeV_two (l := l) (by omega) (by omega)
      rw [hl] at e2
      by_cases hlt : m ≤ half n
      · have e := subV_lo (l := l) (p := m) (kn := kn) (by omega) (by omega) (by omega) (by rw [hl]; exact hlt)
        rw [hl] at e
        have htl : (l.take (half n)).length = half n := by rw [List.length_take]; omega
        have ett : (l.take (half n)).take m = l.take m := by rw [List.take_take, Nat.min_eq_left hlt]
        have h9 := ih (half n) a1 (l.take (half n)) m kn root htl h1 hlt (by omega) (by rw [ett]; exact hr)
        rw [ett] at h9
        rw [e, bothV_lo (by omega) (by omega) h64 (by simp) hlt, push_last, push_init, h9, e2]
      · have e := subV_hi (l := l) (p := m) (kn := kn) (by omega) (by omega) (by omega) (by rw [hl]; exact hlt)
        rw [hl] at e
        have hdl : (l.drop (half n)).length = n - half n := by rw [List.length_drop]; omega
        have h9 := ih (n - half n) (by omega) (l.drop (half n)) (m - half n) false root hdl (by omega) (by omega) (by omega) (fun h => by cases h)
        have hml : (l.take m).length = m := by rw [List.length_take]; omega
        have e3 := treeV_two (l := l.take m) (by omega) (by omega)
        rw [hml, half_mid (by omega) h64 (by omega) hmn, List.take_take, Nat.min_eq_left (by omega), List.drop_take] at e3
        rw [e, bothV_hi (by omega) (by omega) h64 (by simp) hlt, push_last, push_init, h9, e2, e3]
theorem sub_hash : ∀ (n : Nat) (l : List ByteArray) (p : Nat) (kn : Bool), l.length = n → n ≤ 64 → AllH l → AllH (subV l p kn) := by
  intro n
  induction n using Nat.strongRecOn with
  | ind n ih =>
    intro l p kn hl h64 hA
    have push : ∀ (q : List ByteArray) (x : ByteArray), AllH q → x.size = 32 → AllH (q ++ [x]) := fun q x hq hx j hj => by
      rw [List.getD_eq_getElem?_getD]
      rcases Nat.lt_or_ge j q.length with h | h
      · rw [List.getElem?_append_left h, ← List.getD_eq_getElem?_getD]
        exact hq j h
      · have : j = q.length := by rw [List.length_append] at hj; simp at hj; omega
        subst this
        simpa using hx
    by_cases hp : p = l.length
    · rw [subV_all hp]
      split
      · intro j hj; simp at hj
      · intro j hj
        obtain rfl : j = 0 := by simpa using hj
        exact tree_size _ _ rfl (by omega) hA
    · by_cases hn : n < 2
      · rw [subV, if_neg hp, dif_pos (by omega)]
        intro j hj; simp at hj
      · obtain ⟨a1, a2, a3⟩ := half_facts (n := n) (by omega) h64
        have htl : (l.take (half n)).length = half n := by rw [List.length_take]; omega
        have hdl : (l.drop (half n)).length = n - half n := by rw [List.length_drop]; omega
        by_cases hlt : p ≤ half n
        · have e := subV_lo (l := l) (p := p) (kn := kn) (by omega) (by omega) hp (by rw [hl]; exact hlt)
          rw [hl] at e
          rw [e]
          exact push _ _ (ih _ a1 _ p kn htl (by omega) (hA.take _)) (tree_size _ _ rfl (by omega) (hA.drop _))
        · have e := subV_hi (l := l) (p := p) (kn := kn) (by omega) (by omega) hp (by rw [hl]; exact hlt)
          rw [hl] at e
          rw [e]
          exact push _ _ (ih _ (by omega) _ _ false hdl (by omega) (hA.drop _)) (tree_size _ _ rfl (by omega) (hA.take _))
/-- The proof of growth leads to both hashes. -/
theorem grow_good {l : List ByteArray} {n m : Nat} (hl : l.length = n) (h1 : 1 ≤ m) (hmn : m ≤ n) (h64 : n ≤ 64) (hA : AllH l) :
    crOut (m : Int) (n : Int) (treeV (l.take m)) (subV l m true) = ((treeV (l.take m), treeV l), 0) := by
  have hsl := sub_len n l m true hl (by omega)
  have h9 := both_tree n l m true (treeV (l.take m)) hl h1 hmn h64 (fun _ => rfl)
  unfold crOut
  rw [if_pos (ok_two (tree_size _ _ rfl (by rw [List.length_take]; omega) (hA.take _)) (by omega) (sub_hash n l m true hl h64 hA)), if_pos ⟨inB_yes (by omega) (by omega), inB_yes (by omega) (by omega)⟩, Int.toNat_natCast, Int.toNat_natCast, h9]
  rfl
end Go.Proofs.YtnaoccndghnmpaaDoor.Sha
