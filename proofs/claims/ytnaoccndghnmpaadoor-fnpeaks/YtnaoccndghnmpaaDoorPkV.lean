/- slices.Clone and slices.Reverse at peaks. -/
import Derived.Test.YtnaoccndghnmpaaDoorPkQ
import Derived.Test.YtnaoccndghnmpaaDoorAppR
import Derived.Deep.QuietTactic
import Derived.BigQuiet
namespace Go.Proofs.YtnaoccndghnmpaaDoor
open Go.ChangeShapes Go.WideShapes Go.ChangeAt Go.RowKit
set_option linter.unusedVariables false
set_option linter.unusedSimpArgs false

theorem pksC_one (l : List Pk) : ∀ u ∈ pksC l, u.oneCell' = true := by
  intro u hu
  obtain ⟨f, _, hf⟩ := List.mem_flatMap.1 hu
  simp only [pkC, List.mem_cons, List.not_mem_nil, or_false] at hf
  rcases hf with rfl | rfl <;> rfl
theorem PA.rw {w : World} {b off cap : Nat} {l : List Pk} (h : PA w b off cap l) : Rw w (.slice (some ⟨b, off, none⟩) l.length cap) l.length (pksC l) := by
  refine ⟨_, _, rfl, .inr ⟨_, rfl, fun j u hu => ?_⟩⟩
  have hadd : (⟨b, off, none⟩ : Addr).add j = ⟨b, off + j, none⟩ := by unfold Addr.add; split <;> simp_all
  have hj : j < l.length * 2 := by
    have := (List.getElem?_eq_some_iff.1 hu).1
    rwa [pksC_len] at this
  obtain ⟨g0, g1⟩ := pksC_get l (j / 2) (by omega)
  obtain ⟨c0, c1⟩ := h.cell (j / 2) (by omega)
  rw [hadd]
  rcases (show j % 2 = 0 ∨ j % 2 = 1 by omega) with e | e
  · rw [show j / 2 * 2 = j by omega] at g0 c0
    rw [c0, ← g0, hu]
  · rw [show j / 2 * 2 + 1 = j by omega] at g1
    rw [show off + j / 2 * 2 + 1 = off + j by omega] at c1
    rw [c1, ← g1, hu]
theorem own_noneP (w : World) (B X : Nat) (hX : w.heap.size = X) (hB : B ≤ X) : w.alloc (.cells #[] 81) |>.ownsRow B 81 2 (.slice (some ⟨X, 0, none⟩) 0 0) 0 [] :=
  ⟨rfl, .inr ⟨X, 0, #[], rfl, hB, by subst hX; exact heap_alloc_new w _, Nat.le_refl _, by unfold maxLen; omega, rfl, rfl⟩⟩
set_option maxRecDepth 100000 in
set_option maxHeartbeats 1000000 in
theorem clone_any (l : List Pk) (b off cap : Nat) (w : World) (hs : PA w b off cap l) (hl : l.length ≤ 4096) :
    Calls Tryd.prog 60 #[.slice (some ⟨b, off, none⟩) l.length cap] w fun e w' => ∃ g c, e = .returned (.slice (some ⟨g, 0, none⟩) l.length c) ∧ OwnP w.heap.size w' (.slice (some ⟨g, 0, none⟩) l.length c) l ∧ w.heap.size ≤ g ∧ Below w.heap.size w w' := by
  obtain ⟨i0, hi, hz0, hz1, hz2⟩ := info_parts infoPk
  have B0 := hide ((Below.refl w.heap.size w).alloc (Nat.le_refl _) (.cells #[] 81))
  have O0 := hide (own_noneP w w.heap.size w.heap.size rfl (Nat.le_refl _))
  have HR := hide ((hs.below (unhide B0)).rw)
  have he : ∀ w : World, (binOp .eql 37 (.slice (some ⟨b, off, none⟩) l.length cap) (.slice none 0 0)).run Tryd.prog w = .ok (.bool false) w := fun _ => rfl
  clear hs
  go_enter Tryd.func60, Tryd.ntmps60
  go_wp2_with (at_builtin; refine wpList_append_row _ rfl _ _ _ rfl w.heap.size 81 i0 _ 2 24 Tryd.underlying37 hi hz0 hz1 hz2 rfl (by omega) _ 0 [] rfl (unhide O0) _ l.length (pksC l) rfl (unhide HR) (pksC_len l) (pksC_one l) (by unfold maxLen; omega) (by omega) (by simp) ?_; intro a1 c1 w1 hown1 hgrow1 hat1; have O1 := hide hown1; have A1 := hide hat1; have B1 := hide ((unhide B0).grown hgrow1 (by simp) (fun r hr => ((unhide O0).lt r hr).1)); clear hown1 hgrow1 hat1)
  go_ret
  have h9 := unhide O1
  rw [Nat.zero_add] at h9
  have hne : a1 ≠ none := fun e => by
    have := unhide A1
    rw [e] at this
    rcases this with h | h <;> cases h
  rcases own_shape h9 with ⟨hv, h0⟩ | ⟨g, c, hv, hg, _⟩
  · simp only [Value.slice.injEq] at hv
    exact absurd hv.1 hne
  · simp only [Value.slice.injEq] at hv
    obtain ⟨rfl, _, rfl⟩ := hv
    exact ⟨g, c1, by simp, by simpa [OwnP] using h9, hg, unhide B1⟩

/-- The first k and the last k changed for one another. -/
def revTo (l : List Pk) (k : Nat) : List Pk := (List.range l.length).map fun j => if j < k ∨ l.length - k ≤ j then l.getD (l.length - 1 - j) default else l.getD j default
theorem revTo_len (l : List Pk) (k : Nat) : (revTo l k).length = l.length := by simp [revTo]
theorem revTo_get (l : List Pk) (k j : Nat) (hj : j < l.length) : (revTo l k).getD j default = if j < k ∨ l.length - k ≤ j then l.getD (l.length - 1 - j) default else l.getD j default := by
  rw [List.getD_eq_getElem?_getD]; simp [revTo, hj]
theorem revTo_zero (l : List Pk) : revTo l 0 = l := by
  apply List.ext_getElem?
  intro j
  by_cases hj : j < l.length
  · have : ¬ l.length ≤ j := by omega
    simp [revTo, hj, this, List.getD_eq_getElem?_getD]
  · simp [revTo, hj]
theorem revTo_end (l : List Pk) (k : Nat) (h : l.length ≤ 2 * k + 1) : revTo l k = l.reverse := by
  apply List.ext_getElem?
  intro j
  by_cases hj : j < l.length
  · rw [List.getElem?_reverse hj]
    have hr : l.length - 1 - j < l.length := by omega
    by_cases h1 : j < k ∨ l.length - k ≤ j
    · simp only [revTo, List.getElem?_map, List.getElem?_range hj, Option.map_some, if_pos h1]
      rw [List.getD_eq_getElem?_getD, List.getElem?_eq_getElem hr]; rfl
    · have e : l.length - 1 - j = j := by omega
      simp only [revTo, List.getElem?_map, List.getElem?_range hj, Option.map_some, if_neg h1, e]
      rw [List.getD_eq_getElem?_getD, List.getElem?_eq_getElem hj]; rfl
  · rw [List.getElem?_eq_none (by rw [revTo_len]; omega), List.getElem?_eq_none (by simp; omega)]
theorem revTo_set (l : List Pk) (k : Nat) (h : k < l.length - 1 - k) : ((revTo l k).set k (l.getD (l.length - 1 - k) default)).set (l.length - 1 - k) (l.getD k default) = revTo l (k + 1) := by
  apply List.ext_getElem?
  intro j
  rw [List.getElem?_set, List.getElem?_set]
  simp only [List.length_set, revTo_len]
  by_cases e1 : l.length - 1 - k = j
  · rw [if_pos e1, if_pos (by omega)]
    have hj : j < l.length := by omega
    rw [show (revTo l (k + 1))[j]? = some (l.getD (l.length - 1 - j) default) by
      simp only [revTo, List.getElem?_map, List.getElem?_range hj, Option.map_some]; rw [if_pos (by omega)]]
    rw [show l.length - 1 - j = k by omega]
  · rw [if_neg e1]
    by_cases e2 : k = j
    · rw [if_pos e2, if_pos (by omega)]
      have hj : j < l.length := by omega
      rw [show (revTo l (k + 1))[j]? = some (l.getD (l.length - 1 - j) default) by
        simp only [revTo, List.getElem?_map, List.getElem?_range hj, Option.map_some]; rw [if_pos (by omega)]]
      rw [e2]
    · rw [if_neg e2]
      by_cases hj : j < l.length
      · simp only [revTo, List.getElem?_map, List.getElem?_range hj, Option.map_some]
        by_cases h1 : j < k ∨ l.length - k ≤ j
        · rw [if_pos h1, if_pos (by omega)]
        · rw [if_neg h1, if_neg (by omega)]
      · rw [List.getElem?_eq_none (by rw [revTo_len]; omega), List.getElem?_eq_none (by rw [revTo_len]; omega)]
set_option maxRecDepth 100000 in
set_option maxHeartbeats 4000000 in
theorem reverse_any (B g c : Nat) (l : List Pk) (w : World) (hO : OwnP B w (.slice (some ⟨g, 0, none⟩) l.length c) l) (hl : l.length ≤ 4096) :
    Calls Tryd.prog 61 #[.slice (some ⟨g, 0, none⟩) l.length c] w fun e w' => e = .returned (.tuple #[]) ∧ OwnP B w' (.slice (some ⟨g, 0, none⟩) l.length c) l.reverse ∧ Touch (fun k => k = g) w w' := by
  have HO := hide hO
  clear hO
  go_enter Tryd.func61, Tryd.ntmps61
  go_wp2_with fail
  go_loopw [2, 3] (fun iv jv wr => ∃ k : Nat, (2 * k ≤ l.length ∨ k = 0) ∧ iv = .int .i64 k ∧ jv = .int .i64 ((l.length : Int) - 1 - (k : Int)) ∧ wr.ownsRow B 81 2 (.slice (some ⟨g, 0, none⟩) l.length c) l.length (pksC (revTo l k)) ∧ Touch (fun k => k = g) w wr) (fun iv _ _ => l.length - (intOf iv).toNat)
  case atStart => exact ⟨0, .inr rfl, rfl, by go_num, by rw [revTo_zero]; exact unhide HO, Touch.refl _ _⟩
  case round =>
    obtain ⟨k, hk, rfl, rfl, hL, hT⟩ := hrel
    by_cases hlt : (k : Int) < (l.length : Int) - 1 - (k : Int)
    · obtain ⟨j, hj⟩ : ∃ j : Nat, j = l.length - 1 - k := ⟨_, rfl⟩
      have hje : (l.length : Int) - 1 - (k : Int) = (j : Int) := by omega
      obtain ⟨c0, c1⟩ := OwnP.cells hL k (by rw [revTo_len]; omega) (revTo_len l k).symm
      obtain ⟨d0, d1⟩ := OwnP.cells hL j (by rw [revTo_len]; omega) (revTo_len l k).symm
      rw [revTo_get l k k (by omega), if_neg (by omega)] at c0 c1
      rw [revTo_get l k j (by omega), if_neg (by omega)] at d0 d1
      have f0 := hL.frozenAt (k * 2)
      have f1 := hL.frozenAt (k * 2 + 1)
      have f2 := hL.frozenAt (j * 2)
      have f3 := hL.frozenAt (j * 2 + 1)
      have hset := revTo_set l k (by omega)
      rw [← hj] at hset
      generalize hx : l.getD k default = x at *
      generalize hy : l.getD j default = y at *
      have q0 := (hL.stored (k * 2) (.int .i64 y.s)).1
      have q1 := (q0.stored (k * 2 + 1) (.string y.h)).1
      have q2 := (q1.stored (j * 2) (.int .i64 x.s)).1
      have q3 := (q2.stored (j * 2 + 1) (.string x.h)).1
      rw [pksC_set (revTo l k) k y (by rw [revTo_len]; omega), pksC_set _ j x (by simp [revTo_len]; omega), hset] at q3
      have R := hide (And.intro q3 ((((hT.setCell ⟨g, k * 2, none⟩ (.int .i64 y.s) (fun _ => rfl)).setCell ⟨g, k * 2 + 1, none⟩ (.string y.h) (fun _ => rfl)).setCell ⟨g, j * 2, none⟩ (.int .i64 x.s) (fun _ => rfl)).setCell ⟨g, j * 2 + 1, none⟩ (.string x.h) (fun _ => rfl)))
      rw [hje]
      clear q0 q1 q2 q3 hset hL hT hx hy hj
      obtain ⟨xs, xh⟩ := x
      obtain ⟨ys, yh⟩ := y
      dsimp only at c0 c1 d0 d1 R
      have g0 : (0 : Int) ≤ (k : Int) := by omega
      have g1 : (k : Int) < (l.length : Int) := by omega
      have g2 : (0 : Int) ≤ (j : Int) := by omega
      have g3 : (j : Int) < (l.length : Int) := by omega
      have g4 : (k : Int) < (j : Int) := by omega
      go_wp2_with fail
      go_big_region
      generalize (((wr.setCell ⟨g, k * 2, none⟩ (.int .i64 ys)).setCell ⟨g, k * 2 + 1, none⟩ (.string yh)).setCell ⟨g, j * 2, none⟩ (.int .i64 xs)).setCell ⟨g, j * 2 + 1, none⟩ (.string xh) = wz at *
      have R2 := hide (And.intro (own_kept (T := fun _ => False) (unhide R).1 ((Touch.refl _ _).drew) (fun _ _ h => h)) (unhide R).2.drew)
      clear R c0 c1 d0 d1 f0 f1 f2 f3
      go_wp2_with fail
      refine ⟨⟨k + 1, .inl (by omega), by go_num, by go_num, (unhide R2).1, (unhide R2).2⟩, ?_⟩
      simp [intOf]; omega
    · have HE := hide (revTo_end l k (by omega))
      have R := hide (And.intro hL hT)
      rw [unhide HE] at R
      clear hL hT
      go_wp2_with fail
      go_end0
      refine ⟨rfl, ?_, (unhide R).2⟩
      unfold OwnP
      rw [List.length_reverse]
      exact (unhide R).1
theorem take_get (l : List Pk) (k i : Nat) (hi : i < k) : (l.take k).getD i default = l.getD i default := by
  rw [List.getD_eq_getElem?_getD, List.getElem?_take, if_pos hi, ← List.getD_eq_getElem?_getD]
theorem PA.take {w : World} {b off cap : Nat} {l : List Pk} (h : PA w b off cap l) (k : Nat) (hk : k ≤ l.length) : PA w b off cap (l.take k) := by
  have e : (l.take k).length = k := by rw [List.length_take]; omega
  refine ⟨by have := h.le; omega, h.mx, h.lt, fun i hi => ?_⟩
  rw [e] at hi
  rw [take_get l k i hi]
  exact h.cell i (by omega)
end Go.Proofs.YtnaoccndghnmpaaDoor
