/- Rows of flags, a list of one's own of lists of one's own, all apart. -/
import Derived.Test.YtedfidpmehamdaaBo
import Derived.Test.YtedfidpmehamdaaOpl
import Derived.Test.YtedfidpmehamdaaOpM
import Derived.Test.YtedfidpmehamdaaQb
import Derived.Test.YtedfidpmehamdaaAppR
namespace Go.Proofs.Ytedfidpmehamdaa
open Go.ChangeShapes Go.WideShapes Go.ChangeAt Go.RowKit Go.Deep
set_option linter.unusedVariables false
set_option linter.unusedSimpArgs false

theorem infoB : (Try.prog.info? 37).map (fun i => (i.zero, i.size, i.bytes)) = some (some (.slice none 0 0), 1, 24) := by kernel_rfl
theorem OwnBo.down {B B' : Nat} {w : World} {v : Value} {l : List Bool} (h : OwnBo B w v l) (hB : B' ≤ B) : OwnBo B' w v l := World.ownsRow.mono h hB
/-- The value is a list of the rows rv, which hold these flags: all the call's own from block B on, no two in one block. -/
structure Gd (B : Nat) (w : World) (v : Value) (rv : List Value) (ls : List (List Bool)) : Prop where
  row : w.ownsRow B 37 1 v rv.length rv
  ln : rv.length = ls.length
  sub : ∀ i, i < rv.length → OwnBo B w (rv.getD i default) (ls.getD i [])
  ap : ∀ i, i < rv.length → ∀ k, (rv.getD i default).ownBlock = some k → v.ownBlock ≠ some k
  dj : ∀ i j, i < rv.length → j < rv.length → i ≠ j → ∀ k, (rv.getD i default).ownBlock = some k → (rv.getD j default).ownBlock ≠ some k
/-- The blocks of all of it. -/
def GdT (v : Value) (rv : List Value) (k : Nat) : Prop := v.ownBlock = some k ∨ ∃ i, i < rv.length ∧ (rv.getD i default).ownBlock = some k
variable {B : Nat} {w w' : World} {v : Value} {rv : List Value} {ls : List (List Bool)}
theorem Gd.kept {T : Nat → Prop} (h : Gd B w v rv ls) (ht : Touch T w w') (hn : ∀ k, GdT v rv k → ¬ T k) : Gd B w' v rv ls :=
  ⟨own_kept h.row ht (fun k hk => hn k (.inl hk)), h.ln, fun i hi => (h.sub i hi).kept ht (fun k hk => hn k (.inr ⟨i, hi, hk⟩)), h.ap, h.dj⟩
theorem Gd.below (h : Gd B w v rv ls) (hb : Below w.heap.size w w') : Gd B w' v rv ls := h.kept (T := fun _ => False) (Touch.ofBelow hb) (fun _ _ e => e)
theorem Gd.lt (h : Gd B w v rv ls) : ∀ k, GdT v rv k → B ≤ k ∧ k < w.heap.size := by
  intro k hk
  rcases hk with hk | ⟨i, hi, hk⟩
  · exact World.ownsRow.lt h.row k hk
  · exact (h.sub i hi).lt k hk
theorem Gd.down {B' : Nat} (h : Gd B w v rv ls) (hB : B' ≤ B) : Gd B' w v rv ls :=
  ⟨World.ownsRow.mono h.row hB, h.ln, fun i hi => (h.sub i hi).down hB, h.ap, h.dj⟩
theorem Gd.nil (B : Nat) (w : World) : Gd B w (.slice none 0 0) [] [] :=
  ⟨World.ownsRow_nil w B 37 1, rfl, fun i hi => by simp at hi, fun i hi => by simp at hi, fun i j hi => by simp at hi⟩
theorem Gd.shape (h : Gd B w v rv ls) : (v = .slice none 0 0 ∧ rv = []) ∨ ∃ g cap, v = .slice (some ⟨g, 0, none⟩) rv.length cap ∧ B ≤ g ∧ g < w.heap.size := by
  rcases own_shape h.row with ⟨rfl, h0⟩ | ⟨g, cap, rfl, hb, hlt, hn, hm⟩
  · exact .inl ⟨rfl, List.eq_nil_of_length_eq_zero h0⟩
  · exact .inr ⟨g, cap, rfl, hb, hlt⟩
theorem Gd.cell {g cap : Nat} (h : Gd B w (.slice (some ⟨g, 0, none⟩) rv.length cap) rv ls) (i : Nat) (hi : i < rv.length) : w.cell? ⟨g, i, none⟩ = some (rv.getD i default) := by
  rw [World.ownsRow.cellAt h.row i (by omega), List.getD_eq_getElem?_getD, List.getElem?_eq_getElem hi]; rfl
/-- A row that has changed. -/
theorem Gd.subset {i : Nat} {l' : List Bool} (h : Gd B w v rv ls) (hi : i < rv.length) (hT : Touch (fun k => (rv.getD i default).ownBlock = some k) w w') (hO : OwnBo B w' (rv.getD i default) l') : Gd B w' v rv (ls.set i l') := by
  refine ⟨own_kept h.row hT (fun k hk e => h.ap i hi k e hk), by rw [List.length_set]; exact h.ln, fun j hj => ?_, h.ap, h.dj⟩
  by_cases e : j = i
  · subst e
    rw [show (ls.set j l').getD j [] = l' by rw [List.getD_eq_getElem?_getD, List.getElem?_set_self (by rw [← h.ln]; exact hj)]; rfl]
    exact hO
  · rw [show (ls.set i l').getD j [] = ls.getD j [] by rw [List.getD_eq_getElem?_getD, List.getElem?_set_ne (fun x => e x.symm), ← List.getD_eq_getElem?_getD]]
    exact (h.sub j hj).kept hT (fun k hk e2 => h.dj j i hj hi e k hk e2)
/-- A row more, of new memory. -/
theorem Gd.push {g cap : Nat} {r : Value} {l' : List Bool} (h : Gd B w v rv ls) (hT : Touch (fun k => v.ownBlock = some k) w w') (hrow : w'.ownsRow B 37 1 (.slice (some ⟨g, 0, none⟩) (rv.length + 1) cap) (rv.length + 1) (rv ++ [r])) (hr : OwnBo B w' r l') (hg : v.ownBlock = some g ∨ w.heap.size ≤ g) (hrg : r.ownBlock ≠ some g) (hrn : ∀ i, i < rv.length → ∀ k, (rv.getD i default).ownBlock = some k → r.ownBlock ≠ some k) : Gd B w' (.slice (some ⟨g, 0, none⟩) (rv.length + 1) cap) (rv ++ [r]) (ls ++ [l']) := by
  have e1 : ∀ i, i < rv.length → (rv ++ [r]).getD i default = rv.getD i default := fun i hi => by
    rw [List.getD_eq_getElem?_getD, List.getElem?_append_left hi, ← List.getD_eq_getElem?_getD]
  have e2 : (rv ++ [r]).getD rv.length default = r := by simp [List.getD_eq_getElem?_getD]
  have f1 : ∀ i, i < rv.length → (ls ++ [l']).getD i [] = ls.getD i [] := fun i hi => by
    rw [List.getD_eq_getElem?_getD, List.getElem?_append_left (by rw [← h.ln]; exact hi), ← List.getD_eq_getElem?_getD]
  have f2 : (ls ++ [l']).getD rv.length [] = l' := by rw [h.ln]; simp [List.getD_eq_getElem?_getD]
  have hlen : (rv ++ [r]).length = rv.length + 1 := by simp
  refine ⟨by rw [hlen]; exact hrow, by simp [h.ln], fun i hi => ?_, fun i hi k hk => ?_, fun i j hi hj hij k hk => ?_⟩
  · rw [hlen] at hi
    by_cases e : i = rv.length
    · subst e; rw [e2, f2]; exact hr
    · rw [e1 i (by omega), f1 i (by omega)]
      exact (h.sub i (by omega)).kept hT (fun k hk e3 => h.ap i (by omega) k hk e3)
  · rw [hlen] at hi
    intro hv
    have hgk : g = k := by simpa [Value.ownBlock] using hv
    subst hgk
    by_cases e : i = rv.length
    · subst e; rw [e2] at hk; exact hrg hk
    · rw [e1 i (by omega)] at hk
      rcases hg with hg | hg
      · exact h.ap i (by omega) g hk hg
      · have := (h.sub i (by omega)).lt g hk; omega
  · rw [hlen] at hi hj
    by_cases ei : i = rv.length
    · subst ei
      rw [e2] at hk
      rw [e1 j (by omega)]
      exact fun hx => hrn j (by omega) k hx hk
    · rw [e1 i (by omega)] at hk
      by_cases ej : j = rv.length
      · subst ej; rw [e2]; exact hrn i (by omega) k hk
      · rw [e1 j (by omega)]
        exact h.dj i j (by omega) (by omega) hij k hk
end Go.Proofs.Ytedfidpmehamdaa
