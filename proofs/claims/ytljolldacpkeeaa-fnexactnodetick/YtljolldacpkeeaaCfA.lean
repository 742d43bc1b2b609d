/- Members that differ by so many: impl.apart, slices.Contains of numbers, slices.ContainsFunc of entries, walked; what is counted, purely. -/
import Derived.Test.YtljolldacpkeeaaNodV
import Derived.Test.YtljolldacpkeeaaNodB
namespace Go.Proofs.Ytljolldacpkeeaa
open Go.ChangeShapes Go.WideShapes Go.ChangeAt Go.RowKit Go.Deep
set_option linter.unusedVariables false

/-- How many are in one of two lists alone, as the program counts them. -/
def apN (one other : List Int) : Int := (one.length : Int) + other.length - 2 * (one.filter (fun x => decide (x ∈ other))).length
/-- How many numbers below k are in one of two lists alone. -/
def moreN (one other : List Int) : Nat → Int
  | 0 => 0
  | k + 1 => moreN one other k + (if decide ((k : Int) ∈ one) = decide ((k : Int) ∈ other) then 0 else 1)
theorem rising_lt {l : List Int} (h : Rising l) : ∀ d i, i + d + 1 < l.length → l.getD i 0 < l.getD (i + d + 1) 0 := by
  intro d
  induction d with
  | zero =>
    intro i hi
    have := h (i + 1) (by omega)
    simpa using this
  | succ d ih =>
    intro i hi
    have h1 := ih i (by omega)
    have h2 := h (i + (d + 1) + 1) (by omega)
    rcases h2 with h2 | h2
    · omega
    · rw [Nat.add_sub_cancel] at h2
      exact Int.lt_trans h1 h2
theorem rising_nodup {l : List Int} (h : Rising l) : l.Pairwise (· ≠ ·) := by
  rw [List.pairwise_iff_getElem]
  intro i j hi hj hij e
  have := rising_lt h (j - i - 1) i (by omega)
  rw [show i + (j - i - 1) + 1 = j by omega] at this
  rw [List.getD_eq_getElem?_getD, List.getElem?_eq_getElem hi, List.getD_eq_getElem?_getD, List.getElem?_eq_getElem hj] at this
  simp only [Option.getD_some] at this
  omega
theorem one_of {l : List Int} (h : l.Pairwise (· ≠ ·)) (k : Int) : (l.filter (fun x => decide (x = k))).length = if k ∈ l then 1 else 0 := by
  induction l with
  | nil => rfl
  | cons x l ih =>
    rw [List.pairwise_cons] at h
    have ih := ih h.2
    by_cases e : x = k
    · subst e
      have hn : ¬ x ∈ l := fun hm => h.1 x hm rfl
      rw [if_neg hn] at ih
      simp [ih]
    · rw [List.filter_cons_of_neg (by simp [e]), ih]
      simp [List.mem_cons, Ne.symm e]
theorem below_step (l : List Int) (k : Int) : (l.filter (fun x => decide (x < k + 1))).length = (l.filter (fun x => decide (x < k))).length + (l.filter (fun x => decide (x = k))).length := by
  induction l with
  | nil => rfl
  | cons x l ih =>
    simp only [List.filter_cons]
    by_cases h1 : x < k
    · rw [if_pos (by simp; omega), if_pos (by simp; omega), if_neg (by simp; omega)]
      simp only [List.length_cons]; omega
    · by_cases h2 : x = k
      · rw [if_pos (by simp; omega), if_neg (by simp; omega), if_pos (by simp; omega)]
        simp only [List.length_cons]; omega
      · rw [if_neg (by simp; omega), if_neg (by simp; omega), if_neg (by simp; omega)]
        exact ih
/-- How many numbers below k a list has. -/
def hasN (l : List Int) : Nat → Nat
  | 0 => 0
  | k + 1 => hasN l k + (if (k : Int) ∈ l then 1 else 0)
theorem hasN_below {l : List Int} (h : l.Pairwise (· ≠ ·)) (h0 : ∀ x ∈ l, 0 ≤ x) : ∀ k : Nat, (l.filter (fun x => decide (x < (k : Int)))).length = hasN l k := by
  intro k
  induction k with
  | zero =>
    show _ = 0
    rw [List.length_eq_zero_iff, List.filter_eq_nil_iff]
    intro x hx
    have := h0 x hx
    simp; omega
  | succ k ih =>
    show _ = hasN l k + _
    rw [← ih, ← one_of h, ← below_step]
    rfl
theorem hasN_all {l : List Int} (h : l.Pairwise (· ≠ ·)) (h0 : ∀ x ∈ l, 0 ≤ x) (h6 : ∀ x ∈ l, x ≤ 6) : l.length = hasN l 7 := by
  rw [← hasN_below h h0]
  congr 1
  symm
  rw [List.filter_eq_self]
  intro x hx
  have := h6 x hx
  simp; omega
theorem moreN_has (one other : List Int) : ∀ k, moreN one other k = (hasN one k : Int) + hasN other k - 2 * hasN (one.filter (fun x => decide (x ∈ other))) k := by
  intro k
  induction k with
  | zero => rfl
  | succ k ih =>
    simp only [moreN, hasN, ih, List.mem_filter, decide_eq_true_eq]
    by_cases a : (k : Int) ∈ one <;> by_cases b : (k : Int) ∈ other <;> simp [a, b] <;> omega
theorem inAll_mem {l : List Int} (h : InAll l) : ∀ x ∈ l, 0 ≤ x ∧ x ≤ 6 := by
  intro x hx
  obtain ⟨i, hi, e⟩ := List.getElem_of_mem hx
  have := h i hi
  rw [List.getD_eq_getElem?_getD, List.getElem?_eq_getElem hi] at this
  simp only [Option.getD_some, e] at this
  exact inB_iff.1 this
theorem more_ap {one other : List Int} (h1 : InAll one ∧ Rising one) (h2 : InAll other ∧ Rising other) : moreN one other 7 = apN one other := by
  have n1 := rising_nodup h1.2
  have n2 := rising_nodup h2.2
  have m1 := inAll_mem h1.1
  have m2 := inAll_mem h2.1
  have e1 := hasN_all n1 (fun x h => (m1 x h).1) (fun x h => (m1 x h).2)
  have e2 := hasN_all n2 (fun x h => (m2 x h).1) (fun x h => (m2 x h).2)
  have e3 := hasN_all (List.Pairwise.filter (fun x => decide (x ∈ other)) n1) (fun x h => (m1 x (List.mem_filter.1 h).1).1) (fun x h => (m1 x (List.mem_filter.1 h).1).2)
  rw [moreN_has]
  unfold apN
  rw [← e1, ← e2, ← e3]

set_option maxRecDepth 100000 in
set_option maxHeartbeats 1000000 in
theorem indexInt_any (v : Value) (l : List Int) (n : Int) (w : World) (h : Ints w v l) (hs : l.length ≤ 1048576) :
    Calls Try.prog 83 #[v, .int .i64 n] w fun e w' => ∃ r : Int, e = .returned (.int .i64 r) ∧ (0 ≤ r ↔ n ∈ l) ∧ w' = w := by
  obtain ⟨a, cap, rfl, hm, hc⟩ := h
  have HC := hide hc
  clear hc hm
  go_enter Try.func83, Try.ntmps83
  go_wp2_with fail
  go_loop [8] (fun i => ∃ k : Nat, k ≤ l.length ∧ i = .int .i64 k ∧ Hid (∀ j, j < k → l.getD j 0 ≠ n)) (fun i => l.length - (intOf i).toNat)
  case atStart => exact ⟨0, Nat.zero_le _, rfl, fun j hj => absurd hj (Nat.not_lt_zero _)⟩
  case round =>
    obtain ⟨k, hk, rfl, HGO⟩ := hrel
    by_cases hlt : k < l.length
    · obtain ⟨b, off, rfl, hbl, hsrc⟩ : ∃ b off, a = some ⟨b, off, none⟩ ∧ b < w.heap.size ∧ ∀ i, i < l.length → w.cell? ⟨b, off + i, none⟩ = some (.int .i64 (l.getD i 0)) := by
        rcases unhide HC with h0 | h1
        · omega
        · exact h1
      have c0 := hsrc k hlt
      have hk0 : (0 : Int) ≤ (k : Int) := by omega
      have hk1 : (k : Int) < (l.length : Int) := by omega
      have HM : Hid (l.getD k 0 ∈ l) := hide (by rw [List.getD_eq_getElem?_getD, List.getElem?_eq_getElem hlt]; exact List.getElem_mem hlt)
      clear hsrc
      by_cases ht : l.getD k 0 = n
      · rw [ht] at c0 HM
        have hb : (n == n) = true := by simp
        go_wp2_with fail
        go_ret
        exact ⟨_, rfl, ⟨fun _ => unhide HM, fun _ => hk0⟩, rfl⟩
      · have ht2 : (n == l.getD k 0) = false := beq_eq_false_iff_ne.2 (fun e => ht e.symm)
        have E := hide (show ∀ i, i < k + 1 → l.getD i 0 ≠ n from fun i hi => by
          by_cases e : i = k
          · subst e; exact ht
          · exact unhide HGO i (by omega))
        generalize l.getD k 0 = t at *
        go_wp2_with fail
        refine ⟨⟨k + 1, by omega, by go_num, E⟩, ?_⟩
        simp [intOf]; omega
    · obtain rfl : k = l.length := by omega
      have HA : Hid (¬ n ∈ l) := hide (of_decide_eq_false (hasB_none (unhide HGO)))
      go_wp2_with fail
      go_ret
      exact ⟨_, rfl, ⟨fun h => by omega, fun h => absurd h (unhide HA)⟩, rfl⟩
set_option maxRecDepth 100000 in
theorem containsInt_any (v : Value) (l : List Int) (n : Int) (w : World) (h : Ints w v l) (hs : l.length ≤ 1048576) :
    Calls Try.prog 70 #[v, .int .i64 n] w fun e w' => e = .returned (.bool (decide (n ∈ l))) ∧ w' = w := by
  have HI := hide (indexInt_any v l n w h hs)
  obtain ⟨a, cap, rfl, hm, hc⟩ := h
  clear hc
  go_enter Try.func70, Try.ntmps70
  go_wp2_with fail
  refine (unhide HI).mono ?_
  rintro e w' ⟨r, rfl, hr, hw⟩
  subst w'
  by_cases h0 : 0 ≤ r
  · have HA := hide (decide_eq_true (hr.1 h0))
    clear hr
    go_wp2_with fail
    go_ret
    exact ⟨ret_bool (by rw [unhide HA]), rfl⟩
  · have HA : Hid (decide (n ∈ l) = false) := hide (decide_eq_false (fun h => h0 (hr.2 h)))
    clear hr
    go_wp2_with fail
    go_ret
    exact ⟨ret_bool (by rw [unhide HA]; simp; omega), rfl⟩
/-- What apart has counted behind k of one's numbers. -/
def apTo (one other : List Int) (k : Nat) : Int := (one.length : Int) + other.length - 2 * ((one.take k).filter (fun x => decide (x ∈ other))).length
theorem apTo_succ (one other : List Int) (k : Nat) (h : k < one.length) : apTo one other (k + 1) = if one.getD k 0 ∈ other then apTo one other k - 2 else apTo one other k := by
  unfold apTo
  have e : one.getD k 0 = one[k] := by rw [List.getD_eq_getElem?_getD, List.getElem?_eq_getElem h]; rfl
  rw [List.take_succ_eq_append_getElem h, List.filter_append, e]
  by_cases hm : one[k] ∈ other
  · rw [if_pos hm]; simp [hm]; omega
  · rw [if_neg hm]; simp [hm]
theorem apTo_all (one other : List Int) : apTo one other one.length = apN one other := by unfold apTo apN; rw [List.take_length]
theorem apTo_bd (one other : List Int) (k : Nat) : apTo one other k ≤ (one.length : Int) + other.length ∧ -(one.length : Int) ≤ apTo one other k := by
  have h1 : ((one.take k).filter (fun x => decide (x ∈ other))).length ≤ one.length := Nat.le_trans (List.length_filter_le _ _) (by rw [List.length_take]; omega)
  unfold apTo
  omega
/-- A config stands among these entries. -/
def cfgIn (l : List En) : Bool := decide (∃ i, i < l.length ∧ (l.getD i default).k = 2)
theorem cfgIn_yes {l : List En} {i : Nat} (hi : i < l.length) (h : (l.getD i default).k = 2) : cfgIn l = true := decide_eq_true ⟨i, hi, h⟩
theorem cfgIn_no {l : List En} (h : ∀ i, i < l.length → (l.getD i default).k ≠ 2) : cfgIn l = false := decide_eq_false (fun ⟨i, hi, e⟩ => h i hi e)
theorem mb_fault (lg : List En) (st : List Int) (hg : CfgOK lg) (hs : mFault st = 0) : ∀ k, k ≤ lg.length → mFault (mbAt lg st k) = 0
  | 0, _ => hs
  | k + 1, hk => by
    show mFault (if (lg.getD k default).k = 2 then _ else _) = 0
    split
    · exact (hg k (by omega) (by assumption)).1
    · exact mb_fault lg st hg hs k (by omega)
theorem fault_ids {l : List Int} (h : mFault l = 0) : InAll l ∧ Rising l := by
  have h1 := idsB_fault l
  rw [decide_eq_true h] at h1
  have h2 : idsB l = true := by
    cases h3 : idsB l
    · rw [h3] at h1; simp at h1
    · rfl
  exact of_decide_eq_true h2
theorem getD_drop (l : List En) (c i : Nat) : (l.drop c).getD i default = l.getD (c + i) default := by
  simp [List.getD_eq_getElem?_getD, List.getElem?_drop]
theorem Ens.dropped {w : World} {a : Option Addr} {c : Nat} {lg : List En} (h : Ens w (.slice a lg.length c) lg) (k : Nat) (hk : k ≤ lg.length) : Ens w (.slice (if c = k then a else a.map (fun x => x.add (k * 3))) (lg.drop k).length (c - k)) (lg.drop k) := by
  obtain ⟨a', c', e, hn, hm, hc⟩ := h
  simp only [Value.slice.injEq] at e
  obtain ⟨rfl, _, rfl⟩ := e
  refine ⟨_, _, rfl, by rw [List.length_drop]; omega, by omega, ?_⟩
  by_cases h0 : (lg.drop k).length = 0
  · exact .inl h0
  · rw [List.length_drop] at h0
    rcases hc with h1 | ⟨b, off, rfl, hl, hc⟩
    · omega
    · rw [if_neg (by omega)]
      refine .inr ⟨b, off + k * 3, by simp [Addr.add], hl, fun i hi => ?_⟩
      rw [List.length_drop] at hi
      have := hc (k + i) (by omega)
      rw [getD_drop, show off + k * 3 + i * 3 = off + (k + i) * 3 by omega]
      exact this
end Go.Proofs.Ytljolldacpkeeaa
