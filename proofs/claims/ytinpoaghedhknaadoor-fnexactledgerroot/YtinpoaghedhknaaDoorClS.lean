/- slices.Clone of texts and of sessions. -/
import Derived.Test.YtinpoaghedhknaaDoorSes
import Derived.Test.YtinpoaghedhknaaDoorStrL
import Derived.Test.YtinpoaghedhknaaDoorAppR
namespace Go.Proofs.YtinpoaghedhknaaDoor
open Go.ChangeShapes Go.WideShapes Go.ChangeAt Go.RowKit
set_option linter.unusedVariables false

theorem sesC_oneK (l : List Se) : ∀ u ∈ sesC l, u.oneCell' = true := by
  intro u hu
  simp only [sesC, List.mem_flatMap] at hu
  obtain ⟨f, _, hf⟩ := hu
  simp only [seC, List.mem_cons, List.not_mem_nil, or_false] at hf
  rcases hf with rfl | rfl | rfl | rfl | rfl <;> rfl
theorem Sess.rw {w : World} {v : Value} {l : List Se} (h : Sess w v l) : Rw w v l.length (sesC l) := by
  obtain ⟨a, cap, rfl, hn, hm, hc⟩ := h
  refine ⟨a, cap, rfl, ?_⟩
  rcases hc with h0 | ⟨b, off, rfl, hlt, hc⟩
  · exact .inl h0
  refine .inr ⟨_, rfl, fun j u hu => ?_⟩
  have hadd : (⟨b, off, none⟩ : Addr).add j = ⟨b, off + j, none⟩ := by unfold Addr.add; split <;> simp_all
  have hj : j < l.length * 5 := by
    have := (List.getElem?_eq_some_iff.1 hu).1
    rwa [sesC_len] at this
  obtain ⟨g0, g1, g2, g3, g4⟩ := sesC_get l (j / 5) (by omega)
  obtain ⟨c0, c1, c2, c3, c4⟩ := hc (j / 5) (by omega)
  rw [hadd]
  rcases (show j % 5 = 0 ∨ j % 5 = 1 ∨ j % 5 = 2 ∨ j % 5 = 3 ∨ j % 5 = 4 by omega) with e | e | e | e | e
  · rw [show j / 5 * 5 = j by omega] at g0 c0
    rw [c0, ← g0, hu]
  · rw [show j / 5 * 5 + 1 = j by omega] at g1
    rw [show off + j / 5 * 5 + 1 = off + j by omega] at c1
    rw [c1, ← g1, hu]
  · rw [show j / 5 * 5 + 2 = j by omega] at g2
    rw [show off + j / 5 * 5 + 2 = off + j by omega] at c2
    rw [c2, ← g2, hu]
  · rw [show j / 5 * 5 + 3 = j by omega] at g3
    rw [show off + j / 5 * 5 + 3 = off + j by omega] at c3
    rw [c3, ← g3, hu]
  · rw [show j / 5 * 5 + 4 = j by omega] at g4
    rw [show off + j / 5 * 5 + 4 = off + j by omega] at c4
    rw [c4, ← g4, hu]
theorem own_noneT (w : World) (B X : Nat) (hX : w.heap.size = X) (hB : B ≤ X) : w.alloc (.cells #[] 9) |>.ownsRow B 9 1 (.slice (some ⟨X, 0, none⟩) 0 0) 0 [] :=
  ⟨rfl, .inr ⟨X, 0, #[], rfl, hB, by subst hX; exact heap_alloc_new w _, Nat.le_refl _, by unfold maxLen; omega, rfl, rfl⟩⟩
set_option maxRecDepth 100000 in
theorem cloneT_nil (w : World) : Calls Tryd.prog 46 #[.slice none 0 0] w fun e w' => e = .returned (.slice none 0 0) ∧ w' = w := by
  have he : ∀ w : World, (binOp .eql 22 (.slice none 0 0) (.slice none 0 0)).run Tryd.prog w = .ok (.bool true) w := fun _ => rfl
  go_enter Tryd.func46, Tryd.ntmps46
  go_wp2_with fail
  go_ret
  exact ⟨rfl, rfl⟩
set_option maxRecDepth 100000 in
set_option maxHeartbeats 1000000 in
theorem cloneT_any (x : Addr) (cap : Nat) (l : List ByteArray) (w : World) (hs : Strs w (.slice (some x) l.length cap) l) (hl : l.length ≤ 4096) :
    Calls Tryd.prog 46 #[.slice (some x) l.length cap] w fun e w' => ∃ g c, e = .returned (.slice (some ⟨g, 0, none⟩) l.length c) ∧ OwnS w.heap.size w' (.slice (some ⟨g, 0, none⟩) l.length c) l ∧ w.heap.size ≤ g ∧ Below w.heap.size w w' := by
  obtain ⟨i0, hi, hz0, hz1, hz2⟩ := info_parts9
  have B0 := hide ((Below.refl w.heap.size w).alloc (Nat.le_refl _) (.cells #[] 9))
  have O0 := hide (own_noneT w w.heap.size w.heap.size rfl (Nat.le_refl _))
  have HR := hide ((hs.below (unhide B0)).rw)
  have he : ∀ w : World, (binOp .eql 22 (.slice (some x) l.length cap) (.slice none 0 0)).run Tryd.prog w = .ok (.bool false) w := fun _ => rfl
  clear hs
  go_enter Tryd.func46, Tryd.ntmps46
  go_wp2_with (at_builtin; refine wpList_append_row _ rfl _ _ _ rfl w.heap.size 9 i0 _ 1 16 Tryd.underlying22 hi hz0 hz1 hz2 rfl (by omega) _ 0 [] rfl (unhide O0) _ l.length (l.map Value.string) rfl (unhide HR) (by simp) (by intro u hu; simp only [List.mem_map] at hu; obtain ⟨s, _, rfl⟩ := hu; rfl) (by unfold maxLen; omega) (by omega) (by simp) ?_; intro a1 c1 w1 hown1 hgrow1 hat1; have O1 := hide hown1; have A1 := hide hat1; have B1 := hide ((unhide B0).grown hgrow1 (by simp) (fun r hr => ((unhide O0).lt r hr).1)); clear hown1 hgrow1 hat1)
  go_ret
  have h9 := unhide O1
  rw [Nat.zero_add] at h9
  have hne : a1 ≠ none := fun e => by
    have := unhide A1
    rw [e] at this
    rcases this with h | h <;> cases h
  rcases own_shape h9 with ⟨hv, h0⟩ | ⟨g, c, hv, hg, _⟩
  · simp only [Value.slice.injEq] at hv
    exact absurd hv.1 hne
  · simp only [Value.slice.injEq] at hv
    obtain ⟨rfl, _, rfl⟩ := hv
    exact ⟨g, c1, by simp, by simpa [OwnS] using h9, hg, unhide B1⟩
theorem own_noneZ (w : World) (B X : Nat) (hX : w.heap.size = X) (hB : B ≤ X) : w.alloc (.cells #[] 77) |>.ownsRow B 77 5 (.slice (some ⟨X, 0, none⟩) 0 0) 0 [] :=
  ⟨rfl, .inr ⟨X, 0, #[], rfl, hB, by subst hX; exact heap_alloc_new w _, Nat.le_refl _, by unfold maxLen; omega, rfl, rfl⟩⟩
set_option maxRecDepth 100000 in
theorem cloneZ_nil (w : World) : Calls Tryd.prog 47 #[.slice none 0 0] w fun e w' => e = .returned (.slice none 0 0) ∧ w' = w := by
  have he : ∀ w : World, (binOp .eql 35 (.slice none 0 0) (.slice none 0 0)).run Tryd.prog w = .ok (.bool true) w := fun _ => rfl
  go_enter Tryd.func47, Tryd.ntmps47
  go_wp2_with fail
  go_ret
  exact ⟨rfl, rfl⟩
set_option maxRecDepth 100000 in
set_option maxHeartbeats 1000000 in
theorem cloneZ_any (x : Addr) (cap : Nat) (l : List Se) (w : World) (hs : Sess w (.slice (some x) l.length cap) l) (hl : l.length ≤ 4096) :
    Calls Tryd.prog 47 #[.slice (some x) l.length cap] w fun e w' => ∃ g c, e = .returned (.slice (some ⟨g, 0, none⟩) l.length c) ∧ OwnSe w.heap.size w' (.slice (some ⟨g, 0, none⟩) l.length c) l ∧ w.heap.size ≤ g ∧ Below w.heap.size w w' := by
  obtain ⟨i0, hi, hz0, hz1, hz2⟩ := info_parts infoSe
  have B0 := hide ((Below.refl w.heap.size w).alloc (Nat.le_refl _) (.cells #[] 77))
  have O0 := hide (own_noneZ w w.heap.size w.heap.size rfl (Nat.le_refl _))
  have HR := hide ((hs.below (unhide B0)).rw)
  have he : ∀ w : World, (binOp .eql 35 (.slice (some x) l.length cap) (.slice none 0 0)).run Tryd.prog w = .ok (.bool false) w := fun _ => rfl
  clear hs
  go_enter Tryd.func47, Tryd.ntmps47
  go_wp2_with (at_builtin; refine wpList_append_row _ rfl _ _ _ rfl w.heap.size 77 i0 _ 5 48 Tryd.underlying35 hi hz0 hz1 hz2 rfl (by omega) _ 0 [] rfl (unhide O0) _ l.length (sesC l) rfl (unhide HR) (sesC_len l) (sesC_oneK l) (by unfold maxLen; omega) (by omega) (by simp) ?_; intro a1 c1 w1 hown1 hgrow1 hat1; have O1 := hide hown1; have A1 := hide hat1; have B1 := hide ((unhide B0).grown hgrow1 (by simp) (fun r hr => ((unhide O0).lt r hr).1)); clear hown1 hgrow1 hat1)
  go_ret
  have h9 := unhide O1
  rw [Nat.zero_add] at h9
  have hne : a1 ≠ none := fun e => by
    have := unhide A1
    rw [e] at this
    rcases this with h | h <;> cases h
  rcases own_shape h9 with ⟨hv, h0⟩ | ⟨g, c, hv, hg, _⟩
  · simp only [Value.slice.injEq] at hv
    exact absurd hv.1 hne
  · simp only [Value.slice.injEq] at hv
    obtain ⟨rfl, _, rfl⟩ := hv
    exact ⟨g, c1, by simp, by simpa [OwnSe] using h9, hg, unhide B1⟩
end Go.Proofs.YtinpoaghedhknaaDoor
