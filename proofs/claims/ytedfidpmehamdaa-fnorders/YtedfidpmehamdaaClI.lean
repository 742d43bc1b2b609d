/- slices.Clone of numbers (out of ClN, for cuts without entries). -/
import Derived.Test.YtedfidpmehamdaaLaidI
import Derived.Test.YtedfidpmehamdaaAppR
namespace Go.Proofs.Ytedfidpmehamdaa
open Go.ChangeShapes Go.WideShapes Go.ChangeAt Go.RowKit
set_option linter.unusedVariables false

theorem Ints.rw {w : World} {v : Value} {l : List Int} (h : Ints w v l) : Rw w v l.length (l.map (Value.int .i64)) := by
  obtain ⟨a, cap, rfl, hm, hc⟩ := h
  refine ⟨a, cap, rfl, ?_⟩
  rcases hc with h0 | ⟨b, off, rfl, hlt, hc⟩
  · exact .inl h0
  refine .inr ⟨_, rfl, fun j u hu => ?_⟩
  have hadd : (⟨b, off, none⟩ : Addr).add j = ⟨b, off + j, none⟩ := by unfold Addr.add; split <;> simp_all
  rw [List.getElem?_map] at hu
  cases hq : l[j]? with
  | none => rw [hq] at hu; cases hu
  | some x =>
    rw [hq] at hu
    have hj := (List.getElem?_eq_some_iff.1 hq).1
    rw [hadd, hc j hj, List.getD_eq_getElem?_getD, hq]
    exact hu
theorem own_noneJ (w : World) (B X : Nat) (hX : w.heap.size = X) (hB : B ≤ X) : w.alloc (.cells #[] 3) |>.ownsRow B 3 1 (.slice (some ⟨X, 0, none⟩) 0 0) 0 [] :=
  ⟨rfl, .inr ⟨X, 0, #[], rfl, hB, by subst hX; exact heap_alloc_new w _, Nat.le_refl _, by unfold maxLen; omega, rfl, rfl⟩⟩
set_option maxRecDepth 100000 in
theorem cloneJ_nil (w : World) : Calls Try.prog 48 #[.slice none 0 0] w fun e w' => e = .returned (.slice none 0 0) ∧ w' = w := by
  have he : ∀ w : World, (binOp .eql 25 (.slice none 0 0) (.slice none 0 0)).run Try.prog w = .ok (.bool true) w := fun _ => rfl
  go_enter Try.func48, Try.ntmps48
  go_wp2_with fail
  go_ret
  exact ⟨rfl, rfl⟩
set_option maxRecDepth 100000 in
set_option maxHeartbeats 1000000 in
theorem cloneJ_any (x : Addr) (cap : Nat) (l : List Int) (w : World) (hs : Ints w (.slice (some x) l.length cap) l) (hl : l.length ≤ 4096) :
    Calls Try.prog 48 #[.slice (some x) l.length cap] w fun e w' => ∃ g c, e = .returned (.slice (some ⟨g, 0, none⟩) l.length c) ∧ OwnI w.heap.size w' (.slice (some ⟨g, 0, none⟩) l.length c) l ∧ w.heap.size ≤ g ∧ Below w.heap.size w w' := by
  obtain ⟨i0, hi, hz0, hz1, hz2⟩ := info_parts info3
  have B0 := hide ((Below.refl w.heap.size w).alloc (Nat.le_refl _) (.cells #[] 3))
  have O0 := hide (own_noneJ w w.heap.size w.heap.size rfl (Nat.le_refl _))
  have HR := hide ((hs.below (unhide B0)).rw)
  have he : ∀ w : World, (binOp .eql 25 (.slice (some x) l.length cap) (.slice none 0 0)).run Try.prog w = .ok (.bool false) w := fun _ => rfl
  clear hs
  go_enter Try.func48, Try.ntmps48
  go_wp2_with (at_builtin; refine wpList_append_row _ rfl _ _ _ rfl w.heap.size 3 i0 _ 1 8 Try.underlying25 hi hz0 hz1 hz2 rfl (by omega) _ 0 [] rfl (unhide O0) _ l.length (l.map (Value.int .i64)) rfl (unhide HR) (by simp) (by intro u hu; simp only [List.mem_map] at hu; obtain ⟨s, _, rfl⟩ := hu; rfl) (by unfold maxLen; omega) (by omega) (by simp) ?_; intro a1 c1 w1 hown1 hgrow1 hat1; have O1 := hide hown1; have A1 := hide hat1; have B1 := hide ((unhide B0).grown hgrow1 (by simp) (fun r hr => ((unhide O0).lt r hr).1)); clear hown1 hgrow1 hat1)
  go_ret
  have h9 := unhide O1
  rw [Nat.zero_add] at h9
  have hne : a1 ≠ none := fun e => by
    have := unhide A1
    rw [e] at this
    rcases this with h | h <;> cases h
  rcases own_shape h9 with ⟨hv, h0⟩ | ⟨g, c, hv, hg, _⟩
  · simp only [Value.slice.injEq] at hv
    exact absurd hv.1 hne
  · simp only [Value.slice.injEq] at hv
    obtain ⟨rfl, _, rfl⟩ := hv
    exact ⟨g, c1, by simp, by simpa [OwnI] using h9, hg, unhide B1⟩
end Go.Proofs.Ytedfidpmehamdaa
