/- The words of a text, as strings.FieldsFunc at the blank parts it: pure. -/
import Derived.Test.YtihhbngpajephaaDoorWrdP
import Derived.Lib.FieldsP
namespace Go.Proofs.YtihhbngpajephaaDoor.Sha
open Go.ChangeShapes Go.WideShapes Go.ChangeAt Go.RowKit
set_option linter.unusedVariables false
set_option linter.unusedSimpArgs false

/-- The byte at a place, as a number. -/
theorem get_bAt (s : ByteArray) (i : Nat) (h : i < s.size) : ((s.get! i).toNat : Int) = bAt s i := by
  cases s with
  | mk d =>
    have h' : i < d.size := h
    show ((d[i]!).toNat : Int) = ((d.toList.getD i 0).toNat : Int)
    rw [List.getD_eq_getElem?_getD, Array.getElem?_toList, Array.getElem?_eq_getElem h', getElem!_pos d i h']
    rfl
/-- What a decoder tells at a byte: a blank of a blank alone; what it goes past behind the first byte is no blank. -/
theorem decode_facts (s : ByteArray) (i : Nat) (h : i < s.size) :
    ((s.get! i).toNat = 32 → Utf8.decode s i = (32, 1)) ∧ ((s.get! i).toNat ≠ 32 → (Utf8.decode s i).1 ≠ 32) ∧ 1 ≤ (Utf8.decode s i).2 ∧ i + (Utf8.decode s i).2 ≤ s.size ∧
      ∀ k, 1 ≤ k → k < (Utf8.decode s i).2 → (s.get! (i + k)).toNat ≠ 32 := by
  have e0 : (s.get! (i + 0)).toNat = (s.get! i).toNat := rfl
  refine ⟨fun hb => ?_, fun hb => ?_, ?_, ?_, ?_⟩
  · unfold Utf8.decode
    simp only [e0, hb]
    rfl
  all_goals
    unfold Utf8.decode
    simp only [e0]
    repeat' split
    all_goals
      first
        | (simp only [Utf8.runeError]; omega)
        | (intro k h1 h2; omega)
        | skip
  all_goals
    simp only [Bool.and_eq_true, decide_eq_true_eq, beq_iff_eq] at *
    first
      | omega
      | (intro k h1 h2
         rcases (show k = 1 ∨ k = 2 ∨ k = 3 by omega) with rfl | rfl | rfl <;> omega)
/-- A stretch without blanks leaves the words as they are. -/
theorem wst_over (t : ByteArray) (i : Nat) : ∀ k, i + k ≤ t.size → (∀ j, j < k → bAt t (i + j) ≠ 32) → wst t (i + k) = wst t i
  | 0, _, _ => rfl
  | k + 1, h, hb => by
    have h1 : sepB t (i + k) = false := by
      unfold sepB
      have e1 : ¬ i + k = t.size := by omega
      have e2 := hb k (by omega)
      simp [e1, e2]
    show wst t (i + k + 1) = _
    rw [wst_no h1, wst_over t i k (by omega) (fun j hj => hb j (by omega))]
/-- The spans that FieldsFunc has found, as the words so far. -/
theorem spans_words (s : ByteArray) : ∀ (f pos : Nat) (st : Option Nat) (acc : List (Nat × Nat)), pos ≤ s.size → s.size ≤ pos + f → acc.map (fun x => s.extract x.1 x.2) = (wst s pos).1 → (st = none → (wst s pos).2 = pos) → (∀ a, st = some a → (wst s pos).2 = a ∧ a < pos) →
    (Lib.closeSpans s (Lib.spansFromP (fun r => r == 32) s f pos st acc)).map (fun x => s.extract x.1 x.2) = wordsL s := by
  have fin : ∀ (pos : Nat) (st : Option Nat) (acc : List (Nat × Nat)), pos = s.size → acc.map (fun x => s.extract x.1 x.2) = (wst s pos).1 → (st = none → (wst s pos).2 = pos) → (∀ a, st = some a → (wst s pos).2 = a ∧ a < pos) → (Lib.closeSpans s (acc, st)).map (fun x => s.extract x.1 x.2) = wordsL s := by
    intro pos st acc hp ha hn hs
    subst hp
    have hsep : sepB s s.size = true := by unfold sepB; simp
    unfold wordsL Lib.closeSpans
    cases st with
    | none =>
      have h1 := hn rfl
      rw [wst_skip hsep (by omega)]
      exact ha
    | some a =>
      obtain ⟨h1, h2⟩ := hs a rfl
      rw [wst_push hsep (by omega)]
      simp only [List.map_append, List.map_cons, List.map_nil]
      rw [ha, h1]
  intro f
  induction f with
  | zero =>
    intro pos st acc hp hf ha hn hs
    exact fin pos st acc (by omega) ha hn hs
  | succ f ih =>
    intro pos st acc hp hf ha hn hs
    by_cases hlt : pos < s.size
    · obtain ⟨d1, d2, d3, d4, d5⟩ := decode_facts s pos hlt
      have hg := get_bAt s pos hlt
      unfold Lib.spansFromP
      rw [if_pos hlt]
      by_cases hb : (s.get! pos).toNat = 32
      · rw [d1 hb]
        have hsep : sepB s pos = true := by unfold sepB; rw [← hg, hb]; simp
        rw [if_pos (by rfl)]
        cases st with
        | none =>
          have h1 := hn rfl
          refine ih (pos + 1) none acc (by omega) (by omega) ?_ (fun _ => ?_) (fun a h => by cases h)
          · rw [wst_skip hsep (by omega)]; exact ha
          · rw [wst_skip hsep (by omega)]
        | some a =>
          obtain ⟨h1, h2⟩ := hs a rfl
          refine ih (pos + 1) none (acc ++ [(a, pos)]) (by omega) (by omega) ?_ (fun _ => ?_) (fun a h => by cases h)
          · rw [wst_push hsep (by omega)]
            simp only [List.map_append, List.map_cons, List.map_nil]
            rw [ha, h1]
          · rw [wst_push hsep (by omega)]
      · have hne := d2 hb
        have hov : wst s (pos + (Utf8.decode s pos).2) = wst s pos := wst_over s pos _ d4 (fun j hj => by
          rw [← get_bAt s (pos + j) (by omega)]
          by_cases j0 : j = 0
          · subst j0; intro e; apply hb; have : s.get! (pos + 0) = s.get! pos := rfl; rw [this] at e; omega
          · have := d5 j (by omega) hj; intro e; omega)
        rw [if_neg (by simpa using hne)]
        generalize (Utf8.decode s pos).2 = n at *
        cases st with
        | none =>
          have h1 := hn rfl
          exact ih (pos + n) (some pos) acc d4 (by omega) (by rw [hov]; exact ha) (fun h => by cases h) (fun a h => by cases h; rw [hov]; exact ⟨h1, by omega⟩)
        | some a =>
          obtain ⟨h1, h2⟩ := hs a rfl
          exact ih (pos + n) (some a) acc d4 (by omega) (by rw [hov]; exact ha) (fun h => by cases h) (fun a' h => by cases h; rw [hov]; exact ⟨h1, by omega⟩)
    · rw [Lib.spansFromP_end _ _ _ _ _ _ hlt]
      exact fin pos st acc (by omega) ha hn hs
/-- strings.FieldsFunc at the blank parts a text into its words. -/
theorem fields_words (s : ByteArray) : Lib.goFieldsP (fun r => r == 32) s = wordsL s :=
  spans_words s s.size 0 none [] (Nat.zero_le _) (by omega) rfl (fun _ => rfl) (fun a h => by cases h)
end Go.Proofs.YtihhbngpajephaaDoor.Sha
