/- Histories: the first order that is found; pure. -/
import Derived.Test.YtedfidpmehamdaaHiC
namespace Go.Proofs.Ytedfidpmehamdaa
set_option linter.unusedVariables false

/-- The first order that is found behind a beginning, in so many steps. -/
def srch (l : List Op) : Nat → List Int → ByteArray → Option (List Int)
  | 0, _, _ => none
  | n + 1, o, va => if wholeB l o = true then some o else (List.range l.length).findSome? fun p => if mayB l o va p = true then srch l n (o ++ [(p : Int)]) (nextV (l.getD p default) va) else none
def srchAt (l : List Op) (n : Nat) (o : List Int) (va : ByteArray) (p : Nat) : Option (List Int) := if mayB l o va p = true then srch l n (o ++ [(p : Int)]) (nextV (l.getD p default) va) else none
theorem fs_some {α : Type} {n : Nat} {g : Nat → Option α} {k : Nat} {r : α} (hk : k < n) (h0 : ∀ j, j < k → g j = none) (h : g k = some r) : (List.range n).findSome? g = some r := by
  induction n with
  | zero => omega
  | succ n ih =>
    rw [List.range_succ, List.findSome?_append]
    by_cases e : k = n
    · subst e
      have : (List.range k).findSome? g = none := by
        rw [List.findSome?_eq_none_iff]
        intro x hx
        exact h0 x (List.mem_range.1 hx)
      rw [this]
      simp [h]
    · rw [ih (by omega)]
      rfl
theorem fs_none {α : Type} {n : Nat} {g : Nat → Option α} (h : ∀ j, j < n → g j = none) : (List.range n).findSome? g = none := by
  rw [List.findSome?_eq_none_iff]
  intro x hx
  exact h x (List.mem_range.1 hx)
theorem srch_whole {l : List Op} {n : Nat} {o : List Int} {va : ByteArray} (h : wholeB l o = true) : srch l (n + 1) o va = some o := by
  unfold srch; rw [if_pos h]
theorem srch_some {l : List Op} {n : Nat} {o : List Int} {va : ByteArray} {k : Nat} {r : List Int} (h : wholeB l o = false) (hk : k < l.length) (h0 : ∀ j, j < k → srchAt l n o va j = none) (h1 : srchAt l n o va k = some r) : srch l (n + 1) o va = some r := by
  unfold srch; rw [if_neg (by rw [h]; simp)]
  exact fs_some hk h0 h1
theorem srch_none {l : List Op} {n : Nat} {o : List Int} {va : ByteArray} (h : wholeB l o = false) (h0 : ∀ j, j < l.length → srchAt l n o va j = none) : srch l (n + 1) o va = none := by
  unfold srch; rw [if_neg (by rw [h]; simp)]
  exact fs_none h0
/-- An order of places of a list, each once. -/
def Plc (n : Nat) (o : List Int) : Prop := o.Nodup ∧ ∀ x ∈ o, 0 ≤ x ∧ x < (n : Int)
theorem Plc.nil (n : Nat) : Plc n [] := ⟨List.nodup_nil, fun x h => by simp at h⟩
theorem Plc.snoc {n : Nat} {o : List Int} {p : Nat} (h : Plc n o) (hp : p < n) (hn : ¬ (p : Int) ∈ o) : Plc n (o ++ [(p : Int)]) := by
  refine ⟨?_, fun x hx => ?_⟩
  · rw [List.nodup_append]
    refine ⟨h.1, by simp, ?_⟩
    intro a ha b hb e
    simp only [List.mem_singleton] at hb
    subst hb; subst e
    exact hn ha
  · rcases List.mem_append.1 hx with h1 | h1
    · exact h.2 x h1
    · simp only [List.mem_singleton] at h1
      subst h1
      omega
theorem nodup_bound : ∀ (n : Nat) (o : List Int), o.Nodup → (∀ x ∈ o, 0 ≤ x ∧ x < (n : Int)) → o.length ≤ n
  | 0, o, _, h => by
    cases o with
    | nil => simp
    | cons x r => have := h x (by simp); omega
  | n + 1, o, hn, h => by
    by_cases hm : (n : Int) ∈ o
    · have h1 := nodup_bound n (o.erase (n : Int)) (hn.erase _) (fun x hx => by
        have hx2 := (List.Nodup.mem_erase_iff hn).1 hx
        have := h x hx2.2
        have := hx2.1
        omega)
      rw [List.length_erase_of_mem hm] at h1
      omega
    · have h1 := nodup_bound n o hn (fun x hx => by
        have := h x hx
        have : x ≠ (n : Int) := fun e => hm (e ▸ hx)
        omega)
      omega
theorem Plc.len {n : Nat} {o : List Int} (h : Plc n o) : o.length ≤ n := nodup_bound n o h.1 h.2
theorem may_not {l : List Op} {o : List Int} {va : ByteArray} {p : Nat} (h : mayB l o va p = true) : ¬ (p : Int) ∈ o := (of_decide_eq_true h).1
theorem srch_len : ∀ (n : Nat) (l : List Op) (o : List Int) (va : ByteArray) (r : List Int), Plc l.length o → srch l n o va = some r → Plc l.length r
  | 0, l, o, va, r, _, h => by cases h
  | n + 1, l, o, va, r, hp, h => by
    unfold srch at h
    split at h
    · cases h; exact hp
    · obtain ⟨p, hpm, hx⟩ := List.exists_of_findSome?_eq_some h
      split at hx
      · exact srch_len n l _ _ r (hp.snoc (List.mem_range.1 hpm) (may_not (by assumption))) hx
      · cases hx
def loOut (l : List Op) : List Int × Int :=
  if ofC l ≠ 0 then ([], ofC l) else match srch l (l.length + 1) [] ⟨#[]⟩ with
  | none => ([], 5)
  | some r => (r, 0)
theorem loOut_len (l : List Op) (hl : l.length ≤ 1048576) : (loOut l).1.length ≤ 1048576 := by
  unfold loOut
  split
  · simp
  · split
    · simp
    · have := (srch_len _ l _ _ _ (Plc.nil _) (by assumption)).len
      simp only
      omega
end Go.Proofs.Ytedfidpmehamdaa
