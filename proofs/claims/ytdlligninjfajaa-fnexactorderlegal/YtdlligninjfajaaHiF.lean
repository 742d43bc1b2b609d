/- Histories: orders that may have been: spec.l14Legal, OrderLegal, walked; what it asks is what the program asks. -/
import Derived.Test.YtdlligninjfajaaHiE
import Derived.Test.YtdlligninjfajaaHiB
import Derived.Deep.LoopGhost
namespace Go.Proofs.Ytdlligninjfajaa
open Go.ChangeShapes Go.WideShapes Go.ChangeAt Go.RowKit Go.Deep
set_option linter.unusedVariables false
set_option linter.unusedSimpArgs false

/-- The act at the i-th place of an order. -/
def actAt (l : List Op) (od : List Int) (i : Nat) : Op := l.getD (od.getD i 0).toNat default
/-- What was written last by the first k of an order. -/
def valTo (l : List Op) (od : List Int) : Nat → ByteArray
  | 0 => ⟨#[]⟩
  | k + 1 => nextV (actAt l od k) (valTo l od k)
abbrev pairOK (l : List Op) (od : List Int) (i k : Nat) : Prop := od.getD k 0 ≠ od.getD i 0 ∧ ahB (actAt l od i) (actAt l od k) = false
abbrev stepOK (l : List Op) (od : List Int) (i : Nat) : Prop := (∀ k, k < i → pairOK l od i k) ∧ ((actAt l od i).wr = true ∨ (actAt l od i).va = valTo l od i)
def legS (l : List Op) (od : List Int) : Bool := decide ((∀ i, i < od.length → stepOK l od i) ∧ ∀ i, i < l.length → 0 ≤ (l.getD i default).en → (i : Int) ∈ od)
theorem legS_yes {l : List Op} {od : List Int} (h1 : ∀ i, i < od.length → stepOK l od i) (h2 : ∀ i, i < l.length → 0 ≤ (l.getD i default).en → (i : Int) ∈ od) : legS l od = true := decide_eq_true ⟨h1, h2⟩
theorem legS_step {l : List Op} {od : List Int} {i : Nat} (hi : i < od.length) (h : ¬ stepOK l od i) : legS l od = false := decide_eq_false (fun hx => h (hx.1 i hi))
theorem legS_out {l : List Op} {od : List Int} {i : Nat} (hi : i < l.length) (h0 : 0 ≤ (l.getD i default).en) (h : ¬ (i : Int) ∈ od) : legS l od = false := decide_eq_false (fun hx => h (hx.2 i hi h0))
theorem legS_iff {l : List Op} {od : List Int} : legS l od = true ↔ (∀ i, i < od.length → stepOK l od i) ∧ ∀ i, i < l.length → 0 ≤ (l.getD i default).en → (i : Int) ∈ od := ⟨fun h => of_decide_eq_true h, fun h => legS_yes h.1 h.2⟩
theorem mayB_iff {l : List Op} {o : List Int} {va : ByteArray} {p : Nat} : mayB l o va p = true ↔ ¬ ((p : Int) ∈ o) ∧ ((l.getD p default).wr = true ∨ (l.getD p default).va = va) ∧ ∀ k, k < l.length → ¬ ((k : Int) ∈ o) → ahB (l.getD k default) (l.getD p default) = false := decide_eq_true_iff
theorem legI_iff (l : List Op) (od : List Int) : ∀ (d k : Nat), k + d = od.length → (legI l (od.take k) (valTo l od k) (od.drop k) = true ↔ (∀ i, k ≤ i → i < od.length → mayB l (od.take i) (valTo l od i) (od.getD i 0).toNat = true) ∧ wholeB l od = true)
  | 0, k, h => by
    obtain rfl : k = od.length := by omega
    rw [List.take_length, List.drop_length]
    exact ⟨fun hx => ⟨fun i h1 h2 => by omega, hx⟩, fun hx => hx.2⟩
  | d + 1, k, h => by
    have hk : k < od.length := by omega
    have ih := legI_iff l od d (k + 1) (by omega)
    rw [drop_cons hk]
    show (mayB l (od.take k) (valTo l od k) (od.getD k 0).toNat && legI l (od.take k ++ [od.getD k 0]) (nextV (l.getD (od.getD k 0).toNat default) (valTo l od k)) (od.drop (k + 1))) = true ↔ _
    rw [← take_snoc hk, show nextV (l.getD (od.getD k 0).toNat default) (valTo l od k) = valTo l od (k + 1) from rfl, Bool.and_eq_true, ih]
    constructor
    · rintro ⟨h1, h2, h3⟩
      refine ⟨fun i hi hl => ?_, h3⟩
      by_cases e : i = k
      · subst e; exact h1
      · exact h2 i (by omega) hl
    · rintro ⟨h1, h3⟩
      exact ⟨h1 k (Nat.le_refl _) hk, fun i hi hl => h1 i (by omega) hl, h3⟩
theorem mem_take_iff {od : List Int} {i : Nat} {x : Int} (hi : i ≤ od.length) : x ∈ od.take i ↔ ∃ k, k < i ∧ od.getD k 0 = x := by
  rw [List.mem_iff_getElem?]
  constructor
  · rintro ⟨k, hk⟩
    rw [List.getElem?_take] at hk
    split at hk
    · exact ⟨k, by assumption, by rw [List.getD_eq_getElem?_getD, hk]; rfl⟩
    · cases hk
  · rintro ⟨k, hk, rfl⟩
    refine ⟨k, ?_⟩
    rw [List.getElem?_take, if_pos hk, List.getElem?_eq_getElem (by omega), List.getD_eq_getElem?_getD, List.getElem?_eq_getElem (by omega)]
    rfl
theorem mem_iff_at {od : List Int} {x : Int} : x ∈ od ↔ ∃ k, k < od.length ∧ od.getD k 0 = x := by
  have := mem_take_iff (od := od) (i := od.length) (x := x) (Nat.le_refl _)
  rwa [List.take_length] at this
/-- What the two ask of an order of a right list, with places of the list alone, is the same. -/
theorem leg_eq (l : List Op) (hs : opsB l = true) (od : List Int) (hin : ∀ i, i < od.length → 0 ≤ od.getD i 0 ∧ od.getD i 0 < (l.length : Int)) : legI l [] ⟨#[]⟩ od = legS l od := by
  have hI := legI_iff l od od.length 0 (by omega)
  rw [List.take_zero, List.drop_zero, show valTo l od 0 = ⟨#[]⟩ from rfl] at hI
  have hto : ∀ i, i < od.length → ((od.getD i 0).toNat : Int) = od.getD i 0 := fun i hi => by have := hin i hi; omega
  rw [Bool.eq_iff_iff, hI, legS_iff]
  constructor
  · rintro ⟨h1, h2⟩
    refine ⟨fun i hi => ⟨fun k hk => ?_, ?_⟩, of_decide_eq_true h2⟩
    · obtain ⟨m1, m2, m3⟩ := mayB_iff.1 (h1 i (Nat.zero_le _) hi)
      obtain ⟨n1, n2, n3⟩ := mayB_iff.1 (h1 k (Nat.zero_le _) (by omega))
      rw [hto i hi] at m1
      refine ⟨fun e => m1 ((mem_take_iff (by omega)).2 ⟨k, hk, e⟩), ?_⟩
      refine n3 (od.getD i 0).toNat (by have := hin i hi; omega) ?_
      rw [hto i hi]
      intro hx
      obtain ⟨q, hq, e⟩ := (mem_take_iff (by omega)).1 hx
      exact m1 ((mem_take_iff (by omega)).2 ⟨q, by omega, e⟩)
    · exact (mayB_iff.1 (h1 i (Nat.zero_le _) hi)).2.1
  · rintro ⟨h1, h2⟩
    refine ⟨fun i _ hi => ?_, decide_eq_true h2⟩
    obtain ⟨m1, m2⟩ := h1 i hi
    refine mayB_iff.2 ⟨?_, m2, ?_⟩
    · rw [hto i hi]
      intro hx
      obtain ⟨q, hq, e⟩ := (mem_take_iff (by omega)).1 hx
      exact (m1 q hq).1 e
    · intro k hk hko
      cases ha : ahB (l.getD k default) (l.getD (od.getD i 0).toNat default) with
      | false => rfl
      | true =>
        exfalso
        have h3 := ha
        simp only [ahB, Bool.and_eq_true, decide_eq_true_eq] at h3
        obtain ⟨q, hq, e⟩ := mem_iff_at.1 (h2 k hk h3.1)
        have eq2 : (od.getD q 0).toNat = k := by omega
        by_cases hqi : q < i
        · exact hko ((mem_take_iff (by omega)).2 ⟨q, hqi, e⟩)
        · by_cases hqe : q = i
          · subst hqe
            rw [eq2] at h3
            have h5 := opB_en ((opsB_at hs).2 k hk)
            omega
          · have h4 := ((h1 q hq).1 i (by omega)).2
            unfold actAt at h4
            rw [eq2, ha] at h4
            cases h4
end Go.Proofs.Ytdlligninjfajaa
