/- The proof that a log has a leaf leads from the leaf to the log's hash: pure. -/
import Derived.Test.YtnaoccndghnmpaaDoorMkI
import Derived.Test.YtnaoccndghnmpaaDoorMkV
namespace Go.Proofs.YtnaoccndghnmpaaDoor.Sha
open Go.ChangeShapes Go.WideShapes Go.ChangeAt Go.RowKit
set_option linter.unusedVariables false

theorem push_last (l : List ByteArray) (x : ByteArray) : (l ++ [x]).getD ((l ++ [x]).length - 1) ByteArray.empty = x := by
  rw [List.length_append, List.getD_eq_getElem?_getD]; simp
theorem push_init (l : List ByteArray) (x : ByteArray) : (l ++ [x]).take ((l ++ [x]).length - 1) = l := by
  rw [List.length_append]; simp
theorem take_getS (l : List ByteArray) (k i : Nat) (hi : i < k) : (l.take k).getD i ByteArray.empty = l.getD i ByteArray.empty := by
  rw [List.getD_eq_getElem?_getD, List.getD_eq_getElem?_getD, List.getElem?_take, if_pos hi]
theorem drop_getS (l : List ByteArray) (k i : Nat) (hi : k ≤ i) : (l.drop k).getD (i - k) ByteArray.empty = l.getD i ByteArray.empty := by
  rw [List.getD_eq_getElem?_getD, List.getD_eq_getElem?_getD, List.getElem?_drop, show k + (i - k) = i by omega]
theorem up_tree : ∀ (n : Nat) (l : List ByteArray) (p : Nat), l.length = n → 1 ≤ n → n ≤ 64 → p < n → upV (l.getD p ByteArray.empty) p n (pathV l p) = (treeV l, true) := by
  intro n
  induction n using Nat.strongRecOn with
  | ind n ih =>
    intro l p hl h1 h64 hp
    by_cases hn : n = 1
    · subst hn
      obtain rfl : p = 0 := by omega
      rw [upV_one, pathV_one hl, treeV_one hl]
      rfl
    · obtain ⟨a1, a2, a3⟩ := half_facts (n := n) (by omega) h64
      have e2 := treeV_two (l := l) (by omega) (by omega)
      rw [hl] at e2
      by_cases hlt : p < half n
      · have e := pathV_lo (l := l) (by omega) (by omega) (p := p) (by rw [hl]; exact hlt)
        rw [hl] at e
        have htl : (l.take (half n)).length = half n := by rw [List.length_take]; omega
        have h9 := ih (half n) a1 (l.take (half n)) p htl a2 (by omega) hlt
        rw [take_getS l _ _ hlt] at h9
        rw [e, upV_lo (by omega) h64 (by simp) hlt, push_last, push_init, h9, e2]
      · have e := pathV_hi (l := l) (by omega) (by omega) (p := p) (by rw [hl]; exact hlt)
        rw [hl] at e
        have hdl : (l.drop (half n)).length = n - half n := by rw [List.length_drop]; omega
        have h9 := ih (n - half n) (by omega) (l.drop (half n)) (p - half n) hdl (by omega) (by omega) (by omega)
        rw [drop_getS l _ _ (by omega)] at h9
        rw [e, upV_hi (by omega) h64 (by simp) hlt, push_last, push_init, h9, e2]
theorem path_way : ∀ (n : Nat) (l : List ByteArray) (p : Nat), l.length = n → 1 ≤ n → n ≤ 64 → p < n → (pathV l p).length = (wayV p n).length := by
  intro n
  induction n using Nat.strongRecOn with
  | ind n ih =>
    intro l p hl h1 h64 hp
    by_cases hn : n = 1
    · subst hn
      rw [pathV_one hl, wayV_one]
      rfl
    · obtain ⟨a1, a2, a3⟩ := half_facts (n := n) (by omega) h64
      by_cases hlt : p < half n
      · have e := pathV_lo (l := l) (by omega) (by omega) (p := p) (by rw [hl]; exact hlt)
        rw [hl] at e
        have htl : (l.take (half n)).length = half n := by rw [List.length_take]; omega
        rw [e, wayV_lo (by omega) h64 hlt, List.length_append, List.length_append, ih (half n) a1 (l.take (half n)) p htl a2 (by omega) hlt]
        rfl
      · have e := pathV_hi (l := l) (by omega) (by omega) (p := p) (by rw [hl]; exact hlt)
        rw [hl] at e
        have hdl : (l.drop (half n)).length = n - half n := by rw [List.length_drop]; omega
        rw [e, wayV_hi (by omega) h64 hlt, List.length_append, List.length_append, ih (n - half n) (by omega) (l.drop (half n)) (p - half n) hdl (by omega) (by omega) (by omega)]
        rfl
theorem path_hash : ∀ (n : Nat) (l : List ByteArray) (p : Nat), l.length = n → n ≤ 64 → AllH l → AllH (pathV l p) := by
  intro n
  induction n using Nat.strongRecOn with
  | ind n ih =>
    intro l p hl h64 hA
    by_cases hn : n < 2
    · rw [pathV, dif_pos (by omega)]
      intro j hj
      simp at hj
    · obtain ⟨a1, a2, a3⟩ := half_facts (n := n) (by omega) h64
      have htl : (l.take (half n)).length = half n := by rw [List.length_take]; omega
      have hdl : (l.drop (half n)).length = n - half n := by rw [List.length_drop]; omega
      have push : ∀ (q : List ByteArray) (x : ByteArray), AllH q → x.size = 32 → AllH (q ++ [x]) := fun q x hq hx j hj => by
        rw [List.getD_eq_getElem?_getD]
        rcases Nat.lt_or_ge j q.length with h | h
        · rw [List.getElem?_append_left h, ← List.getD_eq_getElem?_getD]
          exact hq j h
        · have : j = q.length := by rw [List.length_append] at hj; simp at hj; omega
          subst this
          simpa using hx
      by_cases hlt : p < half n
      · have e := pathV_lo (l := l) (by omega) (by omega) (p := p) (by rw [hl]; exact hlt)
        rw [hl] at e
        rw [e]
        exact push _ _ (ih _ a1 _ p htl (by omega) (hA.take _)) (tree_size _ _ rfl (by omega) (hA.drop _))
      · have e := pathV_hi (l := l) (by omega) (by omega) (p := p) (by rw [hl]; exact hlt)
        rw [hl] at e
        rw [e]
        exact push _ _ (ih _ (by omega) _ _ hdl (by omega) (hA.drop _)) (tree_size _ _ rfl (by omega) (hA.take _))
theorem ok_two {leaf : ByteArray} {pr : List ByteArray} (h1 : leaf.size = 32) (h2 : pr.length ≤ 64) (h3 : AllH pr) : mxI (hfC leaf) (codeL pr) = 0 := by
  have e1 : hfC leaf = 0 := by unfold hfC; rw [if_neg (by omega), if_pos h1]
  have e2 : codeL pr = 0 := by unfold codeL; rw [if_neg (by omega), if_pos ⟨h2, allH_yes h3⟩]
  rw [e1, e2]; rfl
theorem inB_yes {x a b : Int} (h1 : a ≤ x) (h2 : x ≤ b) : inB x a b = true := by unfold inB; simp [h1, h2]
/-- From any leaf the proof of a place is one. -/
theorem root_any {l : List ByteArray} {n p : Nat} {leaf : ByteArray} (hl : l.length = n) (h1 : 1 ≤ n) (h64 : n ≤ 64) (hp : p < n) (hA : AllH l) (hs : leaf.size = 32) :
    rootOut leaf (p : Int) (n : Int) (pathV l p) = (((wayV p n).zip (pathV l p)).foldl climbV leaf, 0) := by
  have hw := way_len n p h1
  have hpw := path_way n l p hl h1 h64 hp
  unfold rootOut
  rw [if_pos (ok_two hs (by omega) (path_hash n l p hl h64 hA)), if_pos ⟨inB_yes (by omega) (by omega), inB_yes (by omega) (by omega)⟩, Int.toNat_natCast, Int.toNat_natCast, if_pos hpw]
/-- From the leaf itself it leads to the log's hash. -/
theorem root_good {l : List ByteArray} {n p : Nat} (hl : l.length = n) (h1 : 1 ≤ n) (h64 : n ≤ 64) (hp : p < n) (hA : AllH l) :
    rootOut (l.getD p ByteArray.empty) (p : Int) (n : Int) (pathV l p) = (treeV l, 0) := by
  rw [root_any hl h1 h64 hp hA (hA p (by omega)), ← (up_way n (l.getD p ByteArray.empty) p (pathV l p) h1 h64).2 (path_way n l p hl h1 h64 hp), up_tree n l p hl h1 h64 hp]
/-- One hash more is no proof. -/
theorem root_more {l : List ByteArray} {n p : Nat} {leaf x : ByteArray} (hl : l.length = n) (h1 : 1 ≤ n) (h64 : n ≤ 64) (hp : p < n) (hA : AllH l) (hs : leaf.size = 32) (hx : x.size = 32) :
    rootOut leaf (p : Int) (n : Int) (pathV l p ++ [x]) = (⟨#[]⟩, 10) := by
  have hw := way_len n p h1
  have hpw := path_way n l p hl h1 h64 hp
  have hA2 : AllH (pathV l p ++ [x]) := fun j hj => by
    rw [List.getD_eq_getElem?_getD]
    rcases Nat.lt_or_ge j (pathV l p).length with h | h
    · rw [List.getElem?_append_left h, ← List.getD_eq_getElem?_getD]
      exact path_hash n l p hl h64 hA j h
    · have : j = (pathV l p).length := by rw [List.length_append] at hj; simp at hj; omega
      subst this
      simpa using hx
  unfold rootOut
  rw [if_pos (ok_two hs (by rw [List.length_append]; simp; omega) hA2), if_pos ⟨inB_yes (by omega) (by omega), inB_yes (by omega) (by omega)⟩, Int.toNat_natCast, Int.toNat_natCast, if_neg (by rw [List.length_append]; simp; omega)]
end Go.Proofs.YtnaoccndghnmpaaDoor.Sha
