/- Rows of numbers in memory. -/
import Derived.Test.YtcmdilmjdnbfkaaDoorShaR
namespace Go.Proofs.YtcmdilmjdnbfkaaDoor.Sha
open Go.ChangeShapes Go.WideShapes Go.ChangeAt Go.RowKit
set_option linter.unusedVariables false

/-- The first n cells of block b hold the numbers f, and may be written. -/
def RowI (w : World) (b n : Nat) (f : Nat → Int) : Prop := ∀ j, j < n → w.cell? ⟨b, j, none⟩ = some (.int .i64 (f j)) ∧ w.frozen? ⟨b, j, none⟩ = false
theorem RowI.congr {w : World} {b n : Nat} {f g : Nat → Int} (h : RowI w b n f) (e : ∀ j, j < n → f j = g j) : RowI w b n g := fun j hj => by rw [← e j hj]; exact h j hj
theorem RowI.set {w : World} {b n : Nat} {f : Nat → Int} (h : RowI w b n f) (k : Nat) (x : Int) : RowI (w.setCell ⟨b, k, none⟩ (.int .i64 x)) b n (fun j => if j = k then x else f j) := by
  intro j hj
  refine ⟨?_, by rw [World.frozen?_setCell]; exact (h j hj).2⟩
  by_cases e : j = k
  · subst e; dsimp only; rw [if_pos rfl]; exact World.cell?_setCell_same w _ _ (h j hj).1
  · dsimp only; rw [if_neg e, World.cell?_setCell_other w _ _ _ (fun h => e (by simpa using (congrArg Addr.off h).symm))]
    exact (h j hj).1
theorem RowI.other {w : World} {b n : Nat} {f : Nat → Int} (h : RowI w b n f) {a : Addr} (ha : a.block ≠ b) (v : Value) : RowI (w.setCell a v) b n f := by
  intro j hj
  refine ⟨?_, by rw [World.frozen?_setCell]; exact (h j hj).2⟩
  rw [World.cell?_setCell_other w _ _ _ (fun h => ha (by rw [h]))]
  exact (h j hj).1
theorem RowI.drewN {w : World} {b n : Nat} {f : Nat → Int} (h : RowI w b n f) (q : Nat) : RowI (w.drewN q) b n f := h
theorem RowI.below {w w' : World} {b n B : Nat} {f : Nat → Int} (h : RowI w b n f) (hb : Below B w w') (hB : b < B) : RowI w' b n f := fun j hj => by
  rw [hb.cell (p := ⟨b, j, none⟩) hB, hb.frozen (p := ⟨b, j, none⟩) hB]; exact h j hj
def cellsI (n : Nat) (f : Nat → Int) : List Value := (List.range n).map fun j => Value.int .i64 (f j)
theorem cellsI_len (n : Nat) (f : Nat → Int) : (cellsI n f).length = n := by simp [cellsI]
theorem cellsI_one (n : Nat) (f : Nat → Int) : ∀ v ∈ cellsI n f, v.oneCell' = true := by
  intro v hv
  simp only [cellsI, List.mem_map] at hv
  obtain ⟨j, _, rfl⟩ := hv
  rfl
theorem RowI.range {w : World} {b n : Nat} {f : Nat → Int} (h : RowI w b n f) : w.rangeAt b 0 (cellsI n f) := by
  intro j v hv
  have hj : j < n := by have := (List.getElem?_eq_some_iff.1 hv).1; rwa [cellsI_len] at this
  rw [Nat.zero_add, (h j hj).1, ← hv]
  simp [cellsI, hj]
theorem RowI.there {w : World} {b n : Nat} {f : Nat → Int} (h : RowI w b n f) : w.there b 0 n := by
  intro j hj
  rw [Nat.zero_add, (h j hj).1]
  exact ⟨rfl, (h j hj).2⟩
theorem RowI.stored {w : World} {b n : Nat} {f g : Nat → Int} (h : RowI w b n f) : RowI (w.setCells b 0 (cellsI n g)) b n g := by
  intro j hj
  have ht : w.there b 0 (cellsI n g).length := by rw [cellsI_len]; exact h.there
  have hr := World.rangeAt_setCells_same w b 0 (cellsI n g) ht j (.int .i64 (g j)) (by simp [cellsI, hj])
  rw [Nat.zero_add] at hr
  exact ⟨hr, by rw [World.frozen?_setCells]; exact (h j hj).2⟩
theorem RowI.apart {w : World} {b n : Nat} {f : Nat → Int} (h : RowI w b n f) {b' o : Nat} (hb : b ≠ b') (vs : List Value) : RowI (w.setCells b' o vs) b n f := by
  intro j hj
  refine ⟨?_, by rw [World.frozen?_setCells]; exact (h j hj).2⟩
  rw [World.cell?_setCells_out b' vs o w ⟨b, j, none⟩ (fun e => absurd e hb)]
  exact (h j hj).1
theorem RowI.alloc {w : World} {b n : Nat} {f : Nat → Int} (h : RowI w b n f) (hb : b < w.heap.size) (c : Array Value) (t : TypeId) : RowI (w.alloc (.cells c t)) b n f := fun j hj => by
  rw [World.cell?_alloc_lt _ _ _ hb]
  exact ⟨(h j hj).1, by rw [World.frozen?_alloc_past _ _ _ hb]; exact (h j hj).2⟩
theorem rowI_box (w : World) (n : Nat) (f : Nat → Int) (t : TypeId) (b : Nat) (hb : b = w.heap.size) : RowI (w.alloc (.cells (cellsI n f).toArray t)) b n f := by
  subst hb
  intro j hj
  refine ⟨?_, by simp⟩
  rw [World.cell?_alloc_at _ _ _ _ rfl]
  simp [cellsI, hj]
end Go.Proofs.YtcmdilmjdnbfkaaDoor.Sha
