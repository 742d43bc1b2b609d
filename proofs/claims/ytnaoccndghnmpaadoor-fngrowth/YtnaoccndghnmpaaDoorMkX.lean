/- What a proof of growth leads to, pure; l06Both. -/
import Derived.Test.YtnaoccndghnmpaaDoorMkW
namespace Go.Proofs.YtnaoccndghnmpaaDoor.Sha
open Go.ChangeShapes Go.WideShapes Go.ChangeAt Go.RowKit
set_option linter.unusedVariables false
set_option linter.unusedSimpArgs false

/-- The sides from the greatest tree that ends with the last old leaf on. -/
def gwV (m n : Nat) : List Int :=
  if h : m = n ∨ n < 2 ∨ 64 < n then []
  else if m ≤ half n then gwV m (half n) ++ [1] else gwV (m - half n) (n - half n) ++ [0]
termination_by n
decreasing_by
  · have := half_facts (n := n) (by omega) (by omega); omega
  · have := half_facts (n := n) (by omega) (by omega); omega
theorem gwV_all (n : Nat) : gwV n n = [] := by rw [gwV, dif_pos (.inl rfl)]
theorem gwV_lo {m n : Nat} (hmn : m < n) (h : 2 ≤ n) (h2 : n ≤ 64) (hp : m ≤ half n) : gwV m n = gwV m (half n) ++ [1] := by rw [gwV, dif_neg (by omega), if_pos hp]
theorem gwV_hi {m n : Nat} (hmn : m < n) (h : 2 ≤ n) (h2 : n ≤ 64) (hp : ¬ m ≤ half n) : gwV m n = gwV (m - half n) (n - half n) ++ [0] := by rw [gwV, dif_neg (by omega), if_neg hp]
theorem way_zero : ∀ (n : Nat), 1 ≤ n → n ≤ 64 → ∀ s ∈ wayV (n - 1) n, s = 0 := by
  intro n
  induction n using Nat.strongRecOn with
  | ind n ih =>
    intro h1 hn s hs
    rcases (show n = 1 ∨ 2 ≤ n by omega) with h | h
    · subst h; rw [wayV_one] at hs; cases hs
    · have hf := half_facts (n := n) h hn
      rw [wayV_hi h hn (by omega)] at hs
      rcases List.mem_append.1 hs with hs | hs
      · rw [show n - 1 - half n = (n - half n) - 1 by omega] at hs
        exact ih (n - half n) (by omega) (by omega) (by omega) s hs
      · simpa using hs
theorem drop_last_one (xs : List Int) : (xs ++ [1]).dropWhile (fun s => s == 0) = xs.dropWhile (fun s => s == 0) ++ [1] := by
  induction xs with
  | nil => simp
  | cons x r ih =>
    rw [List.cons_append, List.dropWhile_cons, List.dropWhile_cons]
    by_cases hx : (x == 0) = true
    · rw [if_pos hx, if_pos hx, ih]
    · rw [if_neg hx, if_neg hx]; rfl
theorem drop_last_zero (xs : List Int) (h : xs.dropWhile (fun s => s == 0) ≠ []) : (xs ++ [0]).dropWhile (fun s => s == 0) = xs.dropWhile (fun s => s == 0) ++ [0] := by
  induction xs with
  | nil => simp at h
  | cons x r ih =>
    rw [List.cons_append, List.dropWhile_cons, List.dropWhile_cons]
    rw [List.dropWhile_cons] at h
    by_cases hx : (x == 0) = true
    · rw [if_pos hx] at h ⊢
      rw [if_pos hx, ih h]
    · rw [if_neg hx, if_neg hx]; rfl
theorem drop_all (xs : List Int) (h : ∀ s ∈ xs, s = 0) : xs.dropWhile (fun s => s == 0) = [] := by
  induction xs with
  | nil => rfl
  | cons x r ih =>
    rw [List.dropWhile_cons, if_pos (by simp [h x (by simp)])]
    exact ih (fun s hs => h s (by simp [hs]))
theorem gw_ne : ∀ (n m : Nat), m < n → n ≤ 64 → 1 ≤ m → gwV m n ≠ [] := by
  intro n m hmn hn h1
  have h : 2 ≤ n := by omega
  by_cases hp : m ≤ half n
  · rw [gwV_lo hmn h hn hp]; simp
  · rw [gwV_hi hmn h hn hp]; simp
theorem gw_way : ∀ (n m : Nat), 1 ≤ m → m ≤ n → n ≤ 64 → (wayV (m - 1) n).dropWhile (fun s => s == 0) = gwV m n := by
  intro n
  induction n using Nat.strongRecOn with
  | ind n ih =>
    intro m h1 hmn hn
    rcases (show m = n ∨ m < n by omega) with h | h
    · subst h; rw [gwV_all]; exact drop_all _ (way_zero m h1 hn)
    · have h2 : 2 ≤ n := by omega
      have hf := half_facts (n := n) h2 hn
      by_cases hp : m ≤ half n
      · rw [wayV_lo h2 hn (by omega), gwV_lo h h2 hn hp, drop_last_one, ih (half n) (by omega) m h1 hp (by omega)]
      · rw [wayV_hi h2 hn (by omega), gwV_hi h h2 hn hp, show m - 1 - half n = (m - half n) - 1 by omega]
        have e := ih (n - half n) (by omega) (m - half n) (by omega) (by omega) (by omega)
        rw [drop_last_zero _ (by rw [e]; exact gw_ne _ _ (by omega) (by omega) (by omega)), e]
theorem gw_len : ∀ (n m : Nat), 1 ≤ n → (gwV m n).length < n := by
  intro n
  induction n using Nat.strongRecOn with
  | ind n ih =>
    intro m h1
    by_cases h : m = n ∨ n < 2 ∨ 64 < n
    · rw [gwV, dif_pos h]; simp; omega
    · have hf := half_facts (n := n) (by omega) (by omega)
      rw [gwV, dif_neg h]
      split
      · have := ih (half n) (by omega) m (by omega); simp; omega
      · have := ih (n - half n) (by omega) (m - half n) (by omega); simp; omega
def stepG (g : ByteArray × ByteArray) (t : Int × ByteArray) : ByteArray × ByteArray := (if t.1 = 0 then climbV g.1 t else g.1, climbV g.2 t)
/-- What the specification says. -/
def bothV (root : ByteArray) (m n : Nat) (pr : List ByteArray) (kn : Bool) : (ByteArray × ByteArray) × Bool :=
  if m = n then (if kn = true then ((root, root), decide (pr.length = 0)) else if pr.length = 1 then ((pr.getD 0 ByteArray.empty, pr.getD 0 ByteArray.empty), true) else ((⟨#[]⟩, ⟨#[]⟩), false))
  else if h : n < 2 ∨ 64 < n then ((⟨#[]⟩, ⟨#[]⟩), false)
  else if pr.length = 0 then ((⟨#[]⟩, ⟨#[]⟩), false)
  else if m ≤ half n then (((bothV root m (half n) (pr.take (pr.length - 1)) kn).1.1, nodeV (bothV root m (half n) (pr.take (pr.length - 1)) kn).1.2 (pr.getD (pr.length - 1) ByteArray.empty)), (bothV root m (half n) (pr.take (pr.length - 1)) kn).2)
  else ((nodeV (pr.getD (pr.length - 1) ByteArray.empty) (bothV root (m - half n) (n - half n) (pr.take (pr.length - 1)) false).1.1, nodeV (pr.getD (pr.length - 1) ByteArray.empty) (bothV root (m - half n) (n - half n) (pr.take (pr.length - 1)) false).1.2), (bothV root (m - half n) (n - half n) (pr.take (pr.length - 1)) false).2)
termination_by n
decreasing_by
  all_goals
    have := half_facts (n := n) (by omega) (by omega)
    omega
theorem bothV_all (root : ByteArray) (n : Nat) (pr : List ByteArray) (kn : Bool) : bothV root n n pr kn = (if kn = true then ((root, root), decide (pr.length = 0)) else if pr.length = 1 then ((pr.getD 0 ByteArray.empty, pr.getD 0 ByteArray.empty), true) else ((⟨#[]⟩, ⟨#[]⟩), false)) := by rw [bothV, if_pos rfl]
theorem bothV_none {root : ByteArray} {m n : Nat} {pr : List ByteArray} {kn : Bool} (hmn : m < n) (h : 2 ≤ n) (h2 : n ≤ 64) (h0 : pr.length = 0) : bothV root m n pr kn = ((⟨#[]⟩, ⟨#[]⟩), false) := by rw [bothV, if_neg (by omega), dif_neg (by omega), if_pos h0]
theorem bothV_lo {root : ByteArray} {m n : Nat} {pr : List ByteArray} {kn : Bool} (hmn : m < n) (h : 2 ≤ n) (h2 : n ≤ 64) (h0 : ¬ pr.length = 0) (hp : m ≤ half n) : bothV root m n pr kn = (((bothV root m (half n) (pr.take (pr.length - 1)) kn).1.1, nodeV (bothV root m (half n) (pr.take (pr.length - 1)) kn).1.2 (pr.getD (pr.length - 1) ByteArray.empty)), (bothV root m (half n) (pr.take (pr.length - 1)) kn).2) := by rw [bothV, if_neg (by omega), dif_neg (by omega), if_neg h0, if_pos hp]
theorem bothV_hi {root : ByteArray} {m n : Nat} {pr : List ByteArray} {kn : Bool} (hmn : m < n) (h : 2 ≤ n) (h2 : n ≤ 64) (h0 : ¬ pr.length = 0) (hp : ¬ m ≤ half n) : bothV root m n pr kn = ((nodeV (pr.getD (pr.length - 1) ByteArray.empty) (bothV root (m - half n) (n - half n) (pr.take (pr.length - 1)) false).1.1, nodeV (pr.getD (pr.length - 1) ByteArray.empty) (bothV root (m - half n) (n - half n) (pr.take (pr.length - 1)) false).1.2), (bothV root (m - half n) (n - half n) (pr.take (pr.length - 1)) false).2) := by rw [bothV, if_neg (by omega), dif_neg (by omega), if_neg h0, if_neg hp]
theorem both_size : ∀ (n : Nat) (root : ByteArray) (m : Nat) (pr : List ByteArray) (kn : Bool), 1 ≤ m → m ≤ n → n ≤ 64 → root.size = 32 → AllH pr → (bothV root m n pr kn).1.1.size ≤ 32 ∧ (bothV root m n pr kn).1.2.size ≤ 32 := by
  intro n
  induction n using Nat.strongRecOn with
  | ind n ih =>
    intro root m pr kn h1 hmn hn hr ha
    rcases (show m = n ∨ m < n by omega) with h | h
    · subst h; rw [bothV_all]; split
      · simp; omega
      · split
        · have := ha 0 (by omega); dsimp only; omega
        · decide
    · have h2 : 2 ≤ n := by omega
      have hf := half_facts (n := n) h2 hn
      by_cases h0 : pr.length = 0
      · rw [bothV_none h h2 hn h0]; decide
      · have hx := ha (pr.length - 1) (by omega)
        by_cases hp : m ≤ half n
        · rw [bothV_lo h h2 hn h0 hp]
          have := ih (half n) (by omega) root m (pr.take (pr.length - 1)) kn h1 hp (by omega) hr (ha.take _)
          exact ⟨this.1, Nat.le_of_eq (node_le this.2 (by omega))⟩
        · rw [bothV_hi h h2 hn h0 hp]
          have := ih (n - half n) (by omega) root (m - half n) (pr.take (pr.length - 1)) false (by omega) (by omega) (by omega) hr (ha.take _)
          exact ⟨Nat.le_of_eq (node_le (by omega) this.1), Nat.le_of_eq (node_le (by omega) this.2)⟩
/-- The hashes that are folded: the first one ahead where it is known. -/
def hashesV (root : ByteArray) (m n : Nat) (pr : List ByteArray) (kn : Bool) : List ByteArray := if kn = true ∧ ¬ (0 : Int) ∈ gwV m n then root :: pr else pr
theorem split_last {pr : List ByteArray} (h0 : ¬ pr.length = 0) : pr = pr.take (pr.length - 1) ++ [pr.getD (pr.length - 1) ByteArray.empty] := by
  have hlt : pr.length - 1 < pr.length := by omega
  rw [List.getD_eq_getElem?_getD, List.getElem?_eq_getElem hlt]
  simp only [Option.getD_some]
  rw [List.take_append_getElem hlt]
  rw [show pr.length - 1 + 1 = pr.length by omega, List.take_length]
theorem fold_last {gw : List Int} {hs : List ByteArray} {s : Int} {x : ByteArray} (hl : hs.length = gw.length + 1) :
    ((gw ++ [s]).zip ((hs ++ [x]).drop 1)).foldl stepG ((hs ++ [x]).getD 0 ByteArray.empty, (hs ++ [x]).getD 0 ByteArray.empty) = stepG ((gw.zip (hs.drop 1)).foldl stepG (hs.getD 0 ByteArray.empty, hs.getD 0 ByteArray.empty)) (s, x) := by
  cases hs with
  | nil => simp at hl
  | cons y r =>
    have hr : r.length = gw.length := by simpa using hl
    simp only [List.cons_append, List.drop_succ_cons, List.drop_zero, List.getD_cons_zero]
    rw [List.zip_append hr.symm, List.foldl_append]
    rfl
theorem both_way : ∀ (n : Nat) (root : ByteArray) (m : Nat) (pr : List ByteArray) (kn : Bool), 1 ≤ m → m ≤ n → n ≤ 64 →
    (bothV root m n pr kn).2 = decide ((hashesV root m n pr kn).length = (gwV m n).length + 1) ∧
    ((hashesV root m n pr kn).length = (gwV m n).length + 1 → (bothV root m n pr kn).1 = ((gwV m n).zip ((hashesV root m n pr kn).drop 1)).foldl stepG ((hashesV root m n pr kn).getD 0 ByteArray.empty, (hashesV root m n pr kn).getD 0 ByteArray.empty)) := by
  intro n
  induction n using Nat.strongRecOn with
  | ind n ih =>
    intro root m pr kn h1 hmn hn
    rcases (show m = n ∨ m < n by omega) with h | h
    · subst h
      unfold hashesV
      rw [bothV_all, gwV_all]
      cases kn with
      | true => simp
      | false =>
        simp only [Bool.false_eq_true, false_and, if_false]
        by_cases hp : pr.length = 1
        · rw [if_pos hp]; simp [hp]
        · rw [if_neg hp]; simp [hp]
    · have h2 : 2 ≤ n := by omega
      have hf := half_facts (n := n) h2 hn
      by_cases h0 : pr.length = 0
      · rw [bothV_none h h2 hn h0]
        have hg : 1 ≤ (gwV m n).length := by
          have := gw_ne n m h hn h1
          cases hgl : gwV m n with
          | nil => exact absurd hgl this
          | cons x r => simp
        have hle : (hashesV root m n pr kn).length ≤ 1 := by
          unfold hashesV; split
          · simp [h0]
          · omega
        refine ⟨?_, fun e => by omega⟩
        simp; omega
      · have hl : (pr.take (pr.length - 1)).length = pr.length - 1 := by rw [List.length_take]; omega
        by_cases hp : m ≤ half n
        · rw [bothV_lo h h2 hn h0 hp]
          obtain ⟨i1, i2⟩ := ih (half n) (by omega) root m (pr.take (pr.length - 1)) kn h1 hp (by omega)
          have hg := gwV_lo h h2 hn hp
          have hh : hashesV root m n pr kn = hashesV root m (half n) (pr.take (pr.length - 1)) kn ++ [pr.getD (pr.length - 1) ByteArray.empty] := by
            unfold hashesV
            rw [hg]
            have hz : ((0 : Int) ∈ gwV m (half n) ++ [1]) ↔ (0 : Int) ∈ gwV m (half n) := by simp
            by_cases hc : kn = true ∧ ¬ (0 : Int) ∈ gwV m (half n)
            · rw [if_pos hc, if_pos ⟨hc.1, fun e => hc.2 (hz.1 e)⟩, List.cons_append, ← split_last h0]
            · rw [if_neg hc, if_neg (fun e => hc ⟨e.1, fun e2 => e.2 (hz.2 e2)⟩), ← split_last h0]
          rw [hh, hg]
          refine ⟨?_, fun e => ?_⟩
          · rw [i1]; simp
          · simp at e
            rw [fold_last e, ← i2 e]
            simp [stepG, climbV]
        · rw [bothV_hi h h2 hn h0 hp]
          obtain ⟨i1, i2⟩ := ih (n - half n) (by omega) root (m - half n) (pr.take (pr.length - 1)) false (by omega) (by omega) (by omega)
          have hg := gwV_hi h h2 hn hp
          have h8 : hashesV root (m - half n) (n - half n) (pr.take (pr.length - 1)) false = pr.take (pr.length - 1) := by
            unfold hashesV; rw [if_neg (by simp)]
          have hh : hashesV root m n pr kn = hashesV root (m - half n) (n - half n) (pr.take (pr.length - 1)) false ++ [pr.getD (pr.length - 1) ByteArray.empty] := by
            rw [h8, ← split_last h0]
            unfold hashesV
            rw [hg, if_neg (by simp)]
          rw [hh, hg]
          refine ⟨?_, fun e => ?_⟩
          · rw [i1]; simp
          · simp at e
            rw [fold_last e, ← i2 e]
            simp [stepG, climbV]
end Go.Proofs.YtnaoccndghnmpaaDoor.Sha
