/- For FnWeaker: a flag of a row of rows; laws.at of one; a copy of a list of acts. -/
import Derived.Test.YtedfidpmehamdaaHiM
import Derived.Test.YtedfidpmehamdaaHiP
import Derived.Test.YtedfidpmehamdaaHiK
import Derived.Test.YtedfidpmehamdaaHiX
import Derived.Test.YtedfidpmehamdaaSrcJ
import Derived.Test.YtedfidpmehamdaaAtS
namespace Go.Proofs.Ytedfidpmehamdaa
open Go.ChangeShapes Go.WideShapes Go.ChangeAt Go.RowKit Go.Deep
set_option linter.unusedVariables false
set_option linter.unusedSimpArgs false

theorem Gd.flag {B n c : Nat} {w : World} {a : Option Addr} {rv : List Value} {ls : List (List Bool)} (h : Gd B w (.slice a n c) rv ls) (i j m : Nat) (hi : i < ls.length) (hm : (ls.getD i []).length = m) (hj : j < m) : ∃ g r rc, a = some ⟨g, 0, none⟩ ∧ g < w.heap.size ∧ r < w.heap.size ∧ w.cell? ⟨g, i, none⟩ = some (.slice (some ⟨r, 0, none⟩) m rc) ∧ w.cell? ⟨r, j, none⟩ = some (.bool ((ls.getD i []).getD j false)) := by
  obtain ⟨g, rfl, hgl, hc, ra, rc, hra⟩ := h.at_ i hi
  have hr : i < rv.length := by rw [h.ln]; exact hi
  have hs := h.sub i hr
  rw [hm] at hra
  rcases own_shape hs with ⟨e, h0⟩ | ⟨r, cap, e, _, hlt, _⟩
  · rw [hm] at h0; omega
  · rw [hm] at e
    rw [e] at hs hc
    refine ⟨g, r, cap, rfl, hgl, hlt, hc, ?_⟩
    exact hs.cell j (by rw [hm]; exact hj)
set_option maxRecDepth 100000 in
theorem at_one (v : Value) (l : List Int) (w : World) (h : Bytes w v l) :
    Calls Try.prog 14 #[v, .int .i64 0, .int .i64 1] w fun e w' => e = .returned (.int .i64 0) ∧ w' = w := by
  obtain ⟨a, cap, rfl, hm, hc, hr⟩ := h
  clear hc hm hr
  go_enter Try.func14, Try.ntmps14
  go_wp2_with fail
  go_ret
  exact ⟨rfl, rfl⟩
theorem at_all (v : Value) (l : List Int) (n : Nat) (w : World) (h : Bytes w v l) (hn : 1 ≤ n) (hn2 : n ≤ 1000) :
    Calls Try.prog 14 #[v, .int .i64 0, .int .i64 (n : Int)] w fun e w' => ∃ r : Nat, e = .returned (.int .i64 (r : Int)) ∧ r < n ∧ Below w.heap.size w w' := by
  by_cases h1 : n = 1
  · subst h1
    exact (at_one v l w h).mono fun e w' ⟨he, hw⟩ => ⟨0, he, by omega, hw ▸ Below.refl _ _⟩
  · exact (at_any v l 0 (n : Int) w h (by omega) (by omega) (by omega) (by omega)).mono fun e w' ⟨r, he, h0, h1, d, hw⟩ => ⟨r.toNat, by rw [he, Int.toNat_of_nonneg h0], by omega, hw ▸ below_drewN (Below.refl _ _) d⟩
theorem Ops.rw {w : World} {v : Value} {l : List Op} (h : Ops w v l) : Rw w v l.length (opsC l) := by
  obtain ⟨a, cap, rfl, hn, hm, hc⟩ := h
  refine ⟨a, cap, rfl, ?_⟩
  rcases hc with h0 | ⟨b, off, rfl, hlt, hc⟩
  · exact .inl h0
  refine .inr ⟨_, rfl, fun j u hu => ?_⟩
  have hadd : (⟨b, off, none⟩ : Addr).add j = ⟨b, off + j, none⟩ := by unfold Addr.add; split <;> simp_all
  have hj : j < l.length * 4 := by
    have := (List.getElem?_eq_some_iff.1 hu).1
    rwa [opsC_len] at this
  obtain ⟨g0, g1, g2, g3⟩ := opsC_get l (j / 4) (by omega)
  obtain ⟨c0, c1, c2, c3⟩ := hc (j / 4) (by omega)
  rw [hadd]
  rcases (show j % 4 = 0 ∨ j % 4 = 1 ∨ j % 4 = 2 ∨ j % 4 = 3 by omega) with e | e | e | e
  · rw [show j / 4 * 4 = j by omega] at g0 c0
    rw [c0, ← g0, hu]
  · rw [show j / 4 * 4 + 1 = j by omega] at g1
    rw [show off + j / 4 * 4 + 1 = off + j by omega] at c1
    rw [c1, ← g1, hu]
  · rw [show j / 4 * 4 + 2 = j by omega] at g2
    rw [show off + j / 4 * 4 + 2 = off + j by omega] at c2
    rw [c2, ← g2, hu]
  · rw [show j / 4 * 4 + 3 = j by omega] at g3
    rw [show off + j / 4 * 4 + 3 = off + j by omega] at c3
    rw [c3, ← g3, hu]
theorem opsC_one (l : List Op) : ∀ u ∈ opsC l, u.oneCell' = true := by
  intro u hu
  simp only [opsC, List.mem_flatMap] at hu
  obtain ⟨f, _, hf⟩ := hu
  simp only [opC, List.mem_cons, List.not_mem_nil, or_false] at hf
  rcases hf with rfl | rfl | rfl | rfl <;> rfl
/-- The End of the act at i is put to -1. -/
theorem own_open {B : Nat} {w : World} {g cap : Nat} {l : List Op} (h : OwnOp B w (.slice (some ⟨g, 0, none⟩) l.length cap) l) (i : Nat) (hi : i < l.length) : OwnOp B (w.setCell ⟨g, i * 4 + 1, none⟩ (.int .i64 (-1))) (.slice (some ⟨g, 0, none⟩) l.length cap) (openO l i) := by
  have hs := (World.ownsRow.stored h (i * 4 + 1) (.int .i64 (-1))).1
  have e : (opsC l).set (i * 4 + 1) (.int .i64 (-1)) = opsC (openO l i) := by
    rw [show openO l i = l.set i { l.getD i default with en := -1 } from rfl, ← opsC_set l i _ hi]
    obtain ⟨g0, g1, g2, g3⟩ := opsC_get l i hi
    apply List.ext_getElem?
    intro j
    have hl := opsC_len l
    simp only [List.getElem?_set, List.length_set]
    by_cases e3 : i * 4 + 3 = j
    · subst e3
      rw [if_neg (by omega), if_pos rfl, if_pos (by omega)]
      exact g3
    · by_cases e2 : i * 4 + 2 = j
      · subst e2
        rw [if_neg (show ¬ i * 4 + 1 = i * 4 + 2 by omega), if_neg (show ¬ i * 4 + 3 = i * 4 + 2 by omega), if_pos rfl, if_pos (by omega)]
        exact g2
      · by_cases e1 : i * 4 + 1 = j
        · subst e1; simp [show i * 4 + 1 < (opsC l).length by omega]
        · by_cases e0 : i * 4 = j
          · subst e0
            simp only [if_neg e1, if_neg e2, if_neg e3]
            rw [if_pos trivial, if_pos (by omega)]
            exact g0
          · simp [e0, e1, e2, e3]
  rw [e] at hs
  unfold OwnOp
  rw [openO_len]
  exact hs
theorem ah_apart {f g : Op} (hf : opB f = true) (hg : opB g = true) (h : ahB f g = true) : ahB g f = false := by
  simp only [ahB, Bool.and_eq_true, decide_eq_true_eq] at h
  have h1 := opB_en hf
  have h2 := opB_en hg
  have h3 := opB_bg hg
  have : ¬ (ahB g f = true) := fun h4 => by
    simp only [ahB, Bool.and_eq_true, decide_eq_true_eq] at h4
    omega
  simpa using this
theorem oa_ok (l : List Op) (h : opsB l = true) : oaOut l = (ahRows l l.length, 0) := by unfold oaOut; rw [if_neg (by rw [ofC_ok h]; simp)]
theorem pj_ok (l : List Op) (h : opsB l = true) (x y : Int) : pjOut l x y = (prj x y l, 0) := by
  have := (opsB_at h).1
  unfold pjOut; rw [if_neg (by omega), h]; rfl
theorem ahRow_get (l : List Op) (i j : Nat) (h : j < l.length) : (ahRow l i l.length).getD j false = ahB (l.getD i default) (l.getD j default) := by simp [ahRow, List.getD_eq_getElem?_getD, h]
end Go.Proofs.Ytedfidpmehamdaa
