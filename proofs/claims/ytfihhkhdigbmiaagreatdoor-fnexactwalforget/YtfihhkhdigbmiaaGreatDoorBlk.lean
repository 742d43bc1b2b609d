/- A block that is known cell by cell. -/
import Derived.Test.YtfihhkhdigbmiaaGreatDoorWr
namespace Go.Proofs.YtfihhkhdigbmiaaGreatDoor
open Go.ChangeShapes Go.WideShapes Go.ChangeAt Go.RowKit
set_option linter.unusedVariables false

def Blk (w : World) (B : Nat) (vs : List Value) : Prop := B < w.heap.size ∧ (∀ i v, vs[i]? = some v → w.cell? ⟨B, i, none⟩ = some v) ∧ ∀ j, w.frozen? ⟨B, j, none⟩ = false
theorem Blk.cell {w : World} {B : Nat} {vs : List Value} (h : Blk w B vs) (i : Nat) {v : Value} (hv : vs[i]? = some v) : w.cell? ⟨B, i, none⟩ = some v := h.2.1 i v hv
theorem Blk.fro {w : World} {B : Nat} {vs : List Value} (h : Blk w B vs) (i : Nat) : w.frozen? ⟨B, i, none⟩ = false := h.2.2 i
theorem Blk.kept {T : Nat → Prop} {w w' : World} {B : Nat} {vs : List Value} (h : Blk w B vs) (ht : Touch T w w') (hn : ¬ T B) : Blk w' B vs :=
  ⟨Nat.lt_of_lt_of_le h.1 ht.size, fun i v hv => (ht.cell (p := ⟨B, i, none⟩) h.1 hn).trans (h.2.1 i v hv), fun j => (ht.frozen (p := ⟨B, j, none⟩) h.1 hn).trans (h.2.2 j)⟩
theorem Blk.below {w w' : World} {B : Nat} {vs : List Value} (h : Blk w B vs) (hb : Below w.heap.size w w') : Blk w' B vs := h.kept (T := fun _ => False) (Touch.ofBelow hb) (fun h => h)
theorem Blk.alloc {w : World} {B : Nat} {vs : List Value} (h : Blk w B vs) (o : Obj) : Blk (w.alloc o) B vs := h.kept (T := fun _ => False) ((Touch.refl _ _).alloc o) (fun h => h)
theorem Blk.drewN {w : World} {B : Nat} {vs : List Value} (h : Blk w B vs) (n : Nat) : Blk (w.drewN n) B vs := h.kept (T := fun _ => False) ((Touch.refl _ _).drewN n) (fun h => h)
theorem Blk.new (w : World) (cs : Array Value) (t : TypeId) (B : Nat) (hB : w.heap.size = B) : Blk (w.alloc (.cells cs t)) B cs.toList := by
  subst hB
  refine ⟨by simp, fun i v hv => ?_, fun j => by simp⟩
  rw [World.cell?_alloc_at _ _ _ _ rfl]
  simpa using hv
theorem Blk.set {w : World} {B : Nat} {vs : List Value} (h : Blk w B vs) (j : Nat) (v : Value) (hj : j < vs.length) : Blk (w.setCell ⟨B, j, none⟩ v) B (vs.set j v) := by
  refine ⟨by simpa using h.1, fun i u hu => ?_, fun i => by rw [World.frozen?_setCell]; exact h.2.2 i⟩
  by_cases e : i = j
  · subst e
    rw [List.getElem?_set_self hj] at hu
    cases hu
    exact World.cell?_setCell_same _ _ _ (h.2.1 i _ (List.getElem?_eq_getElem hj))
  · rw [List.getElem?_set_ne (fun x => e x.symm)] at hu
    rw [World.cell?_setCell_other _ _ _ _ (fun x => e (by simpa using (congrArg Addr.off x).symm))]
    exact h.2.1 i u hu
theorem Blk.other {w : World} {B C : Nat} {vs : List Value} (h : Blk w B vs) (j : Nat) (v : Value) (hne : C ≠ B) : Blk (w.setCell ⟨C, j, none⟩ v) B vs :=
  h.kept (T := fun k => k = C) ((Touch.refl _ _).setCell _ _ (fun _ => rfl)) (fun e => hne e.symm)
end Go.Proofs.YtfihhkhdigbmiaaGreatDoor
