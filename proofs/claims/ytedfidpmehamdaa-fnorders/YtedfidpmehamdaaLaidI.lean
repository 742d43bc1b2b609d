/- A row of numbers of the call's own, known cell by cell; marks laid into it and found there. -/
import Derived.Test.YtedfidpmehamdaaMemI
namespace Go.Proofs.Ytedfidpmehamdaa
open Go.ChangeShapes Go.WideShapes Go.ChangeAt Go.RowKit
set_option linter.unusedVariables false

def LaidI (w : World) (g cap : Nat) (f : Nat → Int) (n : Nat) : Prop := ∃ cur : Array Value, w.heap[g]? = some (.cells cur 3 (0, 0)) ∧ cur.size = cap ∧ n ≤ cap ∧ ∀ j, j < n → cur[j]? = some (.int .i64 (f j))
theorem LaidI.set {w : World} {g cap n : Nat} {f f' : Nat → Int} (h : LaidI w g cap f n) (k : Nat) (x : Int) (hk : k < n) (hf : f' k = x) (ho : ∀ j, j ≠ k → f' j = f j) : LaidI (w.setCell ⟨g, k, none⟩ (.int .i64 x)) g cap f' n := by
  obtain ⟨cur, hg, hs, hn, hc⟩ := h
  refine ⟨cur.setIfInBounds k (.int .i64 x), ?_, by simpa using hs, hn, fun j hj => ?_⟩
  · have hlt := (Array.getElem?_eq_some_iff.1 hg).1
    simp only [World.setCell, Array.getElem?_modify]
    simp [hg]
  · by_cases e : j = k
    · subst e; rw [Array.getElem?_setIfInBounds_self_of_lt (by omega), hf]
    · rw [Array.getElem?_setIfInBounds_ne (by omega), hc j hj, ho j e]
theorem LaidI.cell {w : World} {g cap n : Nat} {f : Nat → Int} (h : LaidI w g cap f n) (j : Nat) (hj : j < n) : w.cell? ⟨g, j, none⟩ = some (.int .i64 (f j)) ∧ w.frozen? ⟨g, j, none⟩ = false := by
  obtain ⟨cur, hg, hs, hn, hc⟩ := h
  refine ⟨?_, by simp [World.frozen?, hg]⟩
  rw [cell_of_row w g j cur 3 (0, 0) hg]
  exact hc j hj
theorem LaidI.own {B : Nat} {w : World} {g cap : Nat} {f : Nat → Int} {l : List Int} (h : LaidI w g cap f l.length) (hf : ∀ j, j < l.length → f j = l.getD j 0) (hB : B ≤ g) (hm : cap ≤ maxLen) : OwnI B w (.slice (some ⟨g, 0, none⟩) l.length cap) l := by
  obtain ⟨cur, hg, hs, hn, hc⟩ := h
  refine ⟨by simp, .inr ⟨g, cap, cur, rfl, hB, hg, hn, hm, by simpa using hs, ?_⟩⟩
  apply List.ext_getElem?
  intro j
  rw [Nat.mul_one, List.getElem?_take, Array.getElem?_toList, List.getElem?_map]
  by_cases hj : j < l.length
  · rw [if_pos hj, hc j hj, hf j hj, List.getD_eq_getElem?_getD, List.getElem?_eq_getElem hj]; rfl
  · rw [if_neg hj, List.getElem?_eq_none (by omega)]; rfl
theorem LaidI.of {B : Nat} {w : World} {g cap n : Nat} {l : List Int} (h : OwnI B w (.slice (some ⟨g, 0, none⟩) n cap) l) : LaidI w g cap (fun j => l.getD j 0) l.length ∧ cap ≤ maxLen ∧ B ≤ g ∧ n = l.length ∧ g < w.heap.size := by
  obtain ⟨hl, hc⟩ := h
  rcases hc with ⟨hv, _⟩ | ⟨g', cap', cur, hv, hb, hg, hn, hm, hs, ht⟩
  · cases hv
  · cases hv
    refine ⟨⟨cur, hg, by simpa using hs, hn, fun j hj => ?_⟩, hm, hb, rfl, (Array.getElem?_eq_some_iff.1 hg).1⟩
    have e := congrArg (fun z : List Value => z[j]?) ht
    simp only [Nat.mul_one, List.getElem?_take, if_pos hj, Array.getElem?_toList, List.getElem?_map] at e
    rw [e, List.getElem?_eq_getElem hj]
    show _ = some (Value.int .i64 (l.getD j 0))
    rw [List.getD_eq_getElem?_getD, List.getElem?_eq_getElem hj]; rfl
theorem OwnI.shape {B : Nat} {w : World} {v : Value} {l : List Int} (h : OwnI B w v l) : (v = .slice none 0 0 ∧ l = []) ∨ ∃ g cap, v = .slice (some ⟨g, 0, none⟩) l.length cap := by
  rcases h.2 with ⟨hv, h0⟩ | ⟨g, cap, cur, hv, _⟩
  · exact .inl ⟨hv, List.eq_nil_of_length_eq_zero h0⟩
  · exact .inr ⟨g, cap, hv⟩
theorem OwnI.lt {B : Nat} {w : World} {v : Value} {l : List Int} (h : OwnI B w v l) : ∀ k, v.ownBlock = some k → B ≤ k ∧ k < w.heap.size := World.ownsRow.lt h
theorem OwnI.kept {T : Nat → Prop} {B : Nat} {w w' : World} {v : Value} {l : List Int} (h : OwnI B w v l) (ht : Touch T w w') (hn : ∀ k, v.ownBlock = some k → ¬ T k) : OwnI B w' v l := by
  obtain ⟨hl, hc⟩ := h
  refine ⟨hl, ?_⟩
  rcases hc with h0 | ⟨g, cap, cur, rfl, hb, hgg, rest⟩
  · exact .inl h0
  · exact .inr ⟨g, cap, cur, rfl, hb, (ht.block g (Array.getElem?_eq_some_iff.1 hgg).1 (hn g rfl)).trans hgg, rest⟩
theorem OwnI.below {B : Nat} {w w' : World} {v : Value} {l : List Int} (h : OwnI B w v l) (hb : Below w.heap.size w w') : OwnI B w' v l := h.kept (T := fun _ => False) (Touch.ofBelow hb) (fun _ _ h => h)
theorem OwnI.drewN {B : Nat} {w : World} {v : Value} {l : List Int} (h : OwnI B w v l) (n : Nat) : OwnI B (w.drewN n) v l := h.kept (T := fun _ => False) ((Touch.refl _ _).drewN n) (fun _ _ h => h)
theorem OwnI.ints {B : Nat} {w : World} {v : Value} {l : List Int} (h : OwnI B w v l) : Ints w v l := by
  rcases h.shape with ⟨rfl, rfl⟩ | ⟨g, cap, rfl⟩
  · exact ⟨none, 0, rfl, by unfold maxLen; simp, .inl rfl⟩
  · obtain ⟨hL, hm, hB, _, hlt⟩ := LaidI.of h
    have hn : l.length ≤ cap := by obtain ⟨_, _, _, hn, _⟩ := hL; exact hn
    exact ⟨_, _, rfl, by omega, .inr ⟨g, 0, rfl, hlt, fun i hi => by rw [Nat.zero_add]; exact (hL.cell i hi).1⟩⟩
end Go.Proofs.Ytedfidpmehamdaa
