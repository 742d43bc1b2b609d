/- Histories: an order is found just where one is legal; one act that is not known to have ended takes no order away; pure. -/
import Derived.Test.YtedfidpmehamdaaHiR
import Derived.Test.YtedfidpmehamdaaHiE
namespace Go.Proofs.Ytedfidpmehamdaa
set_option linter.unusedVariables false

theorem srch_sound : ∀ (n : Nat) (l : List Op) (o : List Int) (va : ByteArray) (r : List Int), srch l n o va = some r → ∃ s, r = o ++ s ∧ legI l o va s = true
  | 0, l, o, va, r, h => by cases h
  | n + 1, l, o, va, r, h => by
    unfold srch at h
    split at h
    · cases h
      exact ⟨[], by simp, by unfold legI; assumption⟩
    · obtain ⟨p, hpm, hx⟩ := List.exists_of_findSome?_eq_some h
      split at hx
      · obtain ⟨s, rfl, hs⟩ := srch_sound n l _ _ r hx
        refine ⟨(p : Int) :: s, by simp, ?_⟩
        unfold legI
        rw [Int.toNat_natCast, Bool.and_eq_true]
        exact ⟨by assumption, hs⟩
      · cases hx
theorem srch_complete (l : List Op) : ∀ (s : List Int) (n : Nat) (o : List Int) (va : ByteArray), (∀ x ∈ s, 0 ≤ x ∧ x < (l.length : Int)) → Plc l.length o → l.length < n + o.length → legI l o va s = true → srch l n o va ≠ none
  | s, 0, o, va, _, hp, hn, _ => by have := hp.len; omega
  | [], n + 1, o, va, _, hp, hn, h => by
    rw [srch_whole (by unfold legI at h; exact h)]
    simp
  | p :: s, n + 1, o, va, hs, hp, hn, h => by
    cases hw : wholeB l o with
    | true => rw [srch_whole hw]; simp
    | false =>
      unfold legI at h
      rw [Bool.and_eq_true] at h
      obtain ⟨hp0, hp1⟩ := hs p (by simp)
      obtain ⟨q, rfl⟩ : ∃ q : Nat, p = (q : Int) := ⟨p.toNat, by omega⟩
      rw [Int.toNat_natCast] at h
      have ih := srch_complete l s n (o ++ [(q : Int)]) (nextV (l.getD q default) va) (fun x hx => hs x (List.mem_cons_of_mem _ hx)) (hp.snoc (by omega) (may_not h.1)) (by rw [List.length_append]; simp; omega) h.2
      unfold srch
      rw [if_neg (by rw [hw]; simp)]
      intro hnone
      have := List.findSome?_eq_none_iff.1 hnone q (List.mem_range.2 (by omega))
      rw [if_pos h.1] at this
      exact ih this
/-- The list with one act that is not known to have ended. -/
def openO (l : List Op) (i : Nat) : List Op := l.set i { l.getD i default with en := -1 }
theorem openO_len (l : List Op) (i : Nat) : (openO l i).length = l.length := by simp [openO]
theorem openO_get (l : List Op) (i k : Nat) (hi : i < l.length) : (openO l i).getD k default = if k = i then { l.getD i default with en := -1 } else l.getD k default := by
  unfold openO
  by_cases e : k = i
  · subst e
    rw [if_pos rfl, List.getD_eq_getElem?_getD, List.getElem?_set_self hi]; rfl
  · rw [if_neg e, List.getD_eq_getElem?_getD, List.getElem?_set_ne (fun x => e x.symm), ← List.getD_eq_getElem?_getD]
theorem openO_same (l : List Op) (i k : Nat) (hi : i < l.length) : ((openO l i).getD k default).bg = (l.getD k default).bg ∧ ((openO l i).getD k default).wr = (l.getD k default).wr ∧ ((openO l i).getD k default).va = (l.getD k default).va ∧ (((openO l i).getD k default).en = -1 ∨ ((openO l i).getD k default).en = (l.getD k default).en) := by
  rw [openO_get l i k hi]
  by_cases e : k = i
  · subst e; rw [if_pos rfl]; exact ⟨rfl, rfl, rfl, .inl rfl⟩
  · rw [if_neg e]; exact ⟨rfl, rfl, rfl, .inr rfl⟩
theorem openO_next (l : List Op) (i k : Nat) (va : ByteArray) (hi : i < l.length) : nextV ((openO l i).getD k default) va = nextV (l.getD k default) va := by
  obtain ⟨_, h2, h3, _⟩ := openO_same l i k hi
  unfold nextV; rw [h2, h3]
theorem openO_may (l : List Op) (i : Nat) (o : List Int) (va : ByteArray) (p : Nat) (hi : i < l.length) (h : mayB l o va p = true) : mayB (openO l i) o va p = true := by
  obtain ⟨h1, h2, h3⟩ := of_decide_eq_true h
  refine decide_eq_true ⟨h1, ?_, fun k hk hko => ?_⟩
  · obtain ⟨_, e2, e3, _⟩ := openO_same l i p hi
    rw [e2, e3]; exact h2
  · rw [openO_len] at hk
    have h4 := h3 k hk hko
    obtain ⟨b1, _, _, _⟩ := openO_same l i p hi
    obtain ⟨_, _, _, e4⟩ := openO_same l i k hi
    unfold ahB at h4 ⊢
    rw [b1]
    rcases e4 with e4 | e4
    · rw [e4]; simp
    · rw [e4]; exact h4
theorem openO_whole (l : List Op) (i : Nat) (o : List Int) (hi : i < l.length) (h : wholeB l o = true) : wholeB (openO l i) o = true := by
  have h1 := of_decide_eq_true h
  refine decide_eq_true (fun k hk h0 => ?_)
  rw [openO_len] at hk
  obtain ⟨_, _, _, e4⟩ := openO_same l i k hi
  rcases e4 with e4 | e4
  · rw [e4] at h0; omega
  · rw [e4] at h0; exact h1 k hk h0
theorem openO_leg (l : List Op) (i : Nat) (hi : i < l.length) : ∀ (s : List Int) (o : List Int) (va : ByteArray), legI l o va s = true → legI (openO l i) o va s = true
  | [], o, va, h => openO_whole l i o hi h
  | p :: s, o, va, h => by
    unfold legI at h ⊢
    rw [Bool.and_eq_true] at h ⊢
    rw [openO_next l i _ va hi]
    exact ⟨openO_may l i o va _ hi h.1, openO_leg l i hi s _ _ h.2⟩
theorem openO_ok (l : List Op) (i : Nat) (hi : i < l.length) (h : opsB l = true) : opsB (openO l i) = true := by
  obtain ⟨h1, h2⟩ := opsB_at h
  refine decide_eq_true ⟨by rw [openO_len]; exact h1, fun k hk => ?_⟩
  rw [openO_len] at hk
  have h3 := h2 k hk
  rw [openO_get l i k hi]
  by_cases e : k = i
  · subst e
    rw [if_pos rfl]
    simp only [opB, Bool.and_eq_true, Bool.or_eq_true, decide_eq_true_eq] at h3 ⊢
    exact ⟨⟨h3.1.1, .inl trivial⟩, h3.2⟩
  · rw [if_neg e]; exact h3
theorem ofC_ok {l : List Op} (h : opsB l = true) : ofC l = 0 := by
  have := (opsB_at h).1
  unfold ofC
  rw [if_neg (by omega), h]; rfl
/-- A right list has an order, or none: what is answered. -/
theorem lo_cases (l : List Op) (h : opsB l = true) : (∃ r, loOut l = (r, 0) ∧ Plc l.length r ∧ legI l [] ⟨#[]⟩ r = true) ∨ (loOut l = ([], 5) ∧ ∀ od, Plc l.length od → legI l [] ⟨#[]⟩ od = false) := by
  have h0 := ofC_ok h
  cases hs : srch l (l.length + 1) [] ⟨#[]⟩ with
  | some r =>
    refine .inl ⟨r, by unfold loOut; rw [if_neg (by omega), hs], srch_len _ l _ _ r (Plc.nil _) hs, ?_⟩
    obtain ⟨s, e, hl⟩ := srch_sound _ l _ _ r hs
    rw [List.nil_append] at e
    rw [e]; exact hl
  | none =>
    refine .inr ⟨by unfold loOut; rw [if_neg (by omega), hs], fun od hp => ?_⟩
    cases hl : legI l [] ⟨#[]⟩ od with
    | false => rfl
    | true => exact absurd hs (srch_complete l od (l.length + 1) [] ⟨#[]⟩ hp.2 (Plc.nil _) (by simp) hl)
theorem lo_open (l : List Op) (i : Nat) (hi : i < l.length) (h : opsB l = true) : (loOut l).2 ≠ 0 ∨ (loOut (openO l i)).2 = 0 := by
  rcases lo_cases l h with ⟨r, e, hp, hl⟩ | ⟨e, _⟩
  · right
    rcases lo_cases (openO l i) (openO_ok l i hi h) with ⟨r2, e2, _⟩ | ⟨e2, hn⟩
    · rw [e2]
    · have := hn r (by rw [openO_len]; exact hp)
      rw [openO_leg l i hi r [] _ hl] at this
      cases this
  · left; rw [e]; simp
/-- What OrderLegal answers of an order of places, each once. -/
theorem ol_plc (l : List Op) (h : opsB l = true) (od : List Int) (hp : Plc l.length od) : olOut l od = (legI l [] ⟨#[]⟩ od, 0) := by
  have h7 := (opsB_at h).1
  have hl := hp.len
  have ho : outIn l.length od = false := outIn_no (fun i hi => by
    rw [inB_iff]
    have := hp.2 (od.getD i 0) (by rw [List.getD_eq_getElem?_getD, List.getElem?_eq_getElem hi]; exact List.getElem_mem hi)
    omega)
  unfold olOut
  rw [if_neg (by omega), if_neg (by rw [ofC_ok h]; simp), if_neg (by omega), ho]
  rfl
end Go.Proofs.Ytedfidpmehamdaa
