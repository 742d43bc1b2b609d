/- slices.Clone of numbers and of entries. (Written by py/cln.py.) -/
import Derived.Test.YtglkgmijcefjkaaStL
import Derived.Test.YtglkgmijcefjkaaLaidI
import Derived.Test.YtglkgmijcefjkaaAppR
namespace Go.Proofs.Ytglkgmijcefjkaa
open Go.ChangeShapes Go.WideShapes Go.ChangeAt Go.RowKit
set_option linter.unusedVariables false

theorem ensC_one (l : List En) : ∀ u ∈ ensC l, u.oneCell' = true := by
  intro u hu
  simp only [ensC, List.mem_flatMap] at hu
  obtain ⟨f, _, hf⟩ := hu
  simp only [enC, List.mem_cons, List.not_mem_nil, or_false] at hf
  rcases hf with rfl | rfl | rfl <;> rfl
theorem Ens.rw {w : World} {v : Value} {l : List En} (h : Ens w v l) : Rw w v l.length (ensC l) := by
  obtain ⟨a, cap, rfl, hn, hm, hc⟩ := h
  refine ⟨a, cap, rfl, ?_⟩
  rcases hc with h0 | ⟨b, off, rfl, hlt, hc⟩
  · exact .inl h0
  refine .inr ⟨_, rfl, fun j u hu => ?_⟩
  have hadd : (⟨b, off, none⟩ : Addr).add j = ⟨b, off + j, none⟩ := by unfold Addr.add; split <;> simp_all
  have hj : j < l.length * 3 := by
    have := (List.getElem?_eq_some_iff.1 hu).1
    rwa [ensC_len] at this
  obtain ⟨g0, g1, g2⟩ := ensC_get l (j / 3) (by omega)
  obtain ⟨c0, c1, c2⟩ := hc (j / 3) (by omega)
  rw [hadd]
  rcases (show j % 3 = 0 ∨ j % 3 = 1 ∨ j % 3 = 2 by omega) with e | e | e
  · rw [show j / 3 * 3 = j by omega] at g0 c0
    rw [c0, ← g0, hu]
  · rw [show j / 3 * 3 + 1 = j by omega] at g1
    rw [show off + j / 3 * 3 + 1 = off + j by omega] at c1
    rw [c1, ← g1, hu]
  · rw [show j / 3 * 3 + 2 = j by omega] at g2
    rw [show off + j / 3 * 3 + 2 = off + j by omega] at c2
    rw [c2, ← g2, hu]
theorem Ints.rw {w : World} {v : Value} {l : List Int} (h : Ints w v l) : Rw w v l.length (l.map (Value.int .i64)) := by
  obtain ⟨a, cap, rfl, hm, hc⟩ := h
  refine ⟨a, cap, rfl, ?_⟩
  rcases hc with h0 | ⟨b, off, rfl, hlt, hc⟩
  · exact .inl h0
  refine .inr ⟨_, rfl, fun j u hu => ?_⟩
  have hadd : (⟨b, off, none⟩ : Addr).add j = ⟨b, off + j, none⟩ := by unfold Addr.add; split <;> simp_all
  rw [List.getElem?_map] at hu
  cases hq : l[j]? with
  | none => rw [hq] at hu; cases hu
  | some x =>
    rw [hq] at hu
    have hj := (List.getElem?_eq_some_iff.1 hq).1
    rw [hadd, hc j hj, List.getD_eq_getElem?_getD, hq]
    exact hu
theorem own_noneJ (w : World) (B X : Nat) (hX : w.heap.size = X) (hB : B ≤ X) : w.alloc (.cells #[] 3) |>.ownsRow B 3 1 (.slice (some ⟨X, 0, none⟩) 0 0) 0 [] :=
  ⟨rfl, .inr ⟨X, 0, #[], rfl, hB, by subst hX; exact heap_alloc_new w _, Nat.le_refl _, by unfold maxLen; omega, rfl, rfl⟩⟩
set_option maxRecDepth 100000 in
theorem cloneJ_nil (w : World) : Calls Try.prog 52 #[.slice none 0 0] w fun e w' => e = .returned (.slice none 0 0) ∧ w' = w := by
  have he : ∀ w : World, (binOp .eql 23 (.slice none 0 0) (.slice none 0 0)).run Try.prog w = .ok (.bool true) w := fun _ => rfl
  go_enter Try.func52, Try.ntmps52
  go_wp2_with fail
  go_ret
  exact ⟨rfl, rfl⟩
set_option maxRecDepth 100000 in
set_option maxHeartbeats 1000000 in
theorem cloneJ_any (x : Addr) (cap : Nat) (l : List Int) (w : World) (hs : Ints w (.slice (some x) l.length cap) l) (hl : l.length ≤ 4096) :
    Calls Try.prog 52 #[.slice (some x) l.length cap] w fun e w' => ∃ g c, e = .returned (.slice (some ⟨g, 0, none⟩) l.length c) ∧ OwnI w.heap.size w' (.slice (some ⟨g, 0, none⟩) l.length c) l ∧ w.heap.size ≤ g ∧ Below w.heap.size w w' := by
  obtain ⟨i0, hi, hz0, hz1, hz2⟩ := info_parts info3
  have B0 := hide ((Below.refl w.heap.size w).alloc (Nat.le_refl _) (.cells #[] 3))
  have O0 := hide (own_noneJ w w.heap.size w.heap.size rfl (Nat.le_refl _))
  have HR := hide ((hs.below (unhide B0)).rw)
  have he : ∀ w : World, (binOp .eql 23 (.slice (some x) l.length cap) (.slice none 0 0)).run Try.prog w = .ok (.bool false) w := fun _ => rfl
  clear hs
  go_enter Try.func52, Try.ntmps52
  go_wp2_with (at_builtin; refine wpList_append_row _ rfl _ _ _ rfl w.heap.size 3 i0 _ 1 8 Try.underlying23 hi hz0 hz1 hz2 rfl (by omega) _ 0 [] rfl (unhide O0) _ l.length (l.map (Value.int .i64)) rfl (unhide HR) (by simp) (by intro u hu; simp only [List.mem_map] at hu; obtain ⟨s, _, rfl⟩ := hu; rfl) (by unfold maxLen; omega) (by omega) (by simp) ?_; intro a1 c1 w1 hown1 hgrow1 hat1; have O1 := hide hown1; have A1 := hide hat1; have B1 := hide ((unhide B0).grown hgrow1 (by simp) (fun r hr => ((unhide O0).lt r hr).1)); clear hown1 hgrow1 hat1)
  go_ret
  have h9 := unhide O1
  rw [Nat.zero_add] at h9
  have hne : a1 ≠ none := fun e => by
    have := unhide A1
    rw [e] at this
    rcases this with h | h <;> cases h
  rcases own_shape h9 with ⟨hv, h0⟩ | ⟨g, c, hv, hg, _⟩
  · simp only [Value.slice.injEq] at hv
    exact absurd hv.1 hne
  · simp only [Value.slice.injEq] at hv
    obtain ⟨rfl, _, rfl⟩ := hv
    exact ⟨g, c1, by simp, by simpa [OwnI] using h9, hg, unhide B1⟩
theorem own_noneE (w : World) (B X : Nat) (hX : w.heap.size = X) (hB : B ≤ X) : w.alloc (.cells #[] 63) |>.ownsRow B 63 3 (.slice (some ⟨X, 0, none⟩) 0 0) 0 [] :=
  ⟨rfl, .inr ⟨X, 0, #[], rfl, hB, by subst hX; exact heap_alloc_new w _, Nat.le_refl _, by unfold maxLen; omega, rfl, rfl⟩⟩
set_option maxRecDepth 100000 in
theorem cloneE_nil (w : World) : Calls Try.prog 51 #[.slice none 0 0] w fun e w' => e = .returned (.slice none 0 0) ∧ w' = w := by
  have he : ∀ w : World, (binOp .eql 27 (.slice none 0 0) (.slice none 0 0)).run Try.prog w = .ok (.bool true) w := fun _ => rfl
  go_enter Try.func51, Try.ntmps51
  go_wp2_with fail
  go_ret
  exact ⟨rfl, rfl⟩
set_option maxRecDepth 100000 in
set_option maxHeartbeats 1000000 in
theorem cloneE_any (x : Addr) (cap : Nat) (l : List En) (w : World) (hs : Ens w (.slice (some x) l.length cap) l) (hl : l.length ≤ 4096) :
    Calls Try.prog 51 #[.slice (some x) l.length cap] w fun e w' => ∃ g c, e = .returned (.slice (some ⟨g, 0, none⟩) l.length c) ∧ OwnE w.heap.size w' (.slice (some ⟨g, 0, none⟩) l.length c) l ∧ w.heap.size ≤ g ∧ Below w.heap.size w w' := by
  obtain ⟨i0, hi, hz0, hz1, hz2⟩ := info_parts infoEn
  have B0 := hide ((Below.refl w.heap.size w).alloc (Nat.le_refl _) (.cells #[] 63))
  have O0 := hide (own_noneE w w.heap.size w.heap.size rfl (Nat.le_refl _))
  have HR := hide ((hs.below (unhide B0)).rw)
  have he : ∀ w : World, (binOp .eql 27 (.slice (some x) l.length cap) (.slice none 0 0)).run Try.prog w = .ok (.bool false) w := fun _ => rfl
  clear hs
  go_enter Try.func51, Try.ntmps51
  go_wp2_with (at_builtin; refine wpList_append_row _ rfl _ _ _ rfl w.heap.size 63 i0 _ 3 32 Try.underlying27 hi hz0 hz1 hz2 rfl (by omega) _ 0 [] rfl (unhide O0) _ l.length (ensC l) rfl (unhide HR) (ensC_len l) (ensC_one l) (by unfold maxLen; omega) (by omega) (by simp) ?_; intro a1 c1 w1 hown1 hgrow1 hat1; have O1 := hide hown1; have A1 := hide hat1; have B1 := hide ((unhide B0).grown hgrow1 (by simp) (fun r hr => ((unhide O0).lt r hr).1)); clear hown1 hgrow1 hat1)
  go_ret
  have h9 := unhide O1
  rw [Nat.zero_add] at h9
  have hne : a1 ≠ none := fun e => by
    have := unhide A1
    rw [e] at this
    rcases this with h | h <;> cases h
  rcases own_shape h9 with ⟨hv, h0⟩ | ⟨g, c, hv, hg, _⟩
  · simp only [Value.slice.injEq] at hv
    exact absurd hv.1 hne
  · simp only [Value.slice.injEq] at hv
    obtain ⟨rfl, _, rfl⟩ := hv
    exact ⟨g, c1, by simp, by simpa [OwnE] using h9, hg, unhide B1⟩
set_option maxRecDepth 100000 in
theorem cloneJ_nilc (cap : Nat) (w : World) : Calls Try.prog 52 #[.slice none 0 cap] w fun e w' => e = .returned (.slice none 0 0) ∧ w' = w := by
  have he : ∀ w : World, (binOp .eql 23 (.slice none 0 cap) (.slice none 0 0)).run Try.prog w = .ok (.bool true) w := fun _ => rfl
  go_enter Try.func52, Try.ntmps52
  go_wp2_with fail
  go_ret
  exact ⟨rfl, rfl⟩
/-- A clone of a list that can be read: the call's own. -/
theorem cloneJ_all (a : Option Addr) (cap : Nat) (l : List Int) (w : World) (hs : Ints w (.slice a l.length cap) l) (hl : l.length ≤ 4096) :
    Calls Try.prog 52 #[.slice a l.length cap] w fun e w' => ∃ a' c', e = .returned (.slice a' l.length c') ∧ OwnI w.heap.size w' (.slice a' l.length c') l ∧ Below w.heap.size w w' := by
  cases a with
  | none =>
    have h0 : l.length = 0 := by
      obtain ⟨a2, c2, e2, hr⟩ := hs
      have hr' : l.length = 0 ∨ ∃ b off, a2 = some ⟨b, off, none⟩ := by
        obtain ⟨_, h | ⟨b, off, h, _⟩⟩ := hr
        · exact .inl h
        · exact .inr ⟨b, off, h⟩
      rcases hr' with h | ⟨b, off, h⟩
      · exact h
      · rw [h] at e2; simp at e2
    obtain rfl := List.eq_nil_of_length_eq_zero h0
    refine (cloneJ_nilc cap w).mono ?_
    rintro e w' ⟨rfl, hw'⟩
    have hw2 := hw'.symm
    clear hw'
    subst hw2
    exact ⟨none, 0, rfl, ⟨rfl, .inl ⟨rfl, rfl⟩⟩, Below.refl _ _⟩
  | some x =>
    refine (cloneJ_any x cap l w hs hl).mono ?_
    rintro e w' ⟨g, c, rfl, ho, _, hb⟩
    exact ⟨_, _, rfl, ho, hb⟩
set_option maxRecDepth 100000 in
theorem cloneE_nilc (cap : Nat) (w : World) : Calls Try.prog 51 #[.slice none 0 cap] w fun e w' => e = .returned (.slice none 0 0) ∧ w' = w := by
  have he : ∀ w : World, (binOp .eql 27 (.slice none 0 cap) (.slice none 0 0)).run Try.prog w = .ok (.bool true) w := fun _ => rfl
  go_enter Try.func51, Try.ntmps51
  go_wp2_with fail
  go_ret
  exact ⟨rfl, rfl⟩
/-- A clone of a list that can be read: the call's own. -/
theorem cloneE_all (a : Option Addr) (cap : Nat) (l : List En) (w : World) (hs : Ens w (.slice a l.length cap) l) (hl : l.length ≤ 4096) :
    Calls Try.prog 51 #[.slice a l.length cap] w fun e w' => ∃ a' c', e = .returned (.slice a' l.length c') ∧ OwnE w.heap.size w' (.slice a' l.length c') l ∧ Below w.heap.size w w' := by
  cases a with
  | none =>
    have h0 : l.length = 0 := by
      obtain ⟨a2, c2, e2, hr⟩ := hs
      have hr' : l.length = 0 ∨ ∃ b off, a2 = some ⟨b, off, none⟩ := by
        obtain ⟨_, _, h | ⟨b, off, h, _⟩⟩ := hr
        · exact .inl h
        · exact .inr ⟨b, off, h⟩
      rcases hr' with h | ⟨b, off, h⟩
      · exact h
      · rw [h] at e2; simp at e2
    obtain rfl := List.eq_nil_of_length_eq_zero h0
    refine (cloneE_nilc cap w).mono ?_
    rintro e w' ⟨rfl, hw'⟩
    have hw2 := hw'.symm
    clear hw'
    subst hw2
    exact ⟨none, 0, rfl, ⟨rfl, .inl ⟨rfl, rfl⟩⟩, Below.refl _ _⟩
  | some x =>
    refine (cloneE_any x cap l w hs hl).mono ?_
    rintro e w' ⟨g, c, rfl, ho, _, hb⟩
    exact ⟨_, _, rfl, ho, hb⟩
end Go.Proofs.Ytglkgmijcefjkaa
