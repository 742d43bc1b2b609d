/- Steps of a map's proof: slices of structs of two cells; what the laws do with them: eq. (Out of PkL, by py/ms.py.) -/
import Derived.Test.YtnajpeaieeaflaaDoorStrO
import Derived.Test.YtnajpeaieeaflaaDoorBytes
import Derived.Test.YtnajpeaieeaflaaDoorIn
import Derived.Deep.Fields
import Derived.Deep.Slices
import Derived.Test.YtnajpeaieeaflaaDoorLawG
import Derived.Deep.RegionHeld3
namespace Go.Proofs.YtnajpeaieeaflaaDoor
open Go.ChangeShapes Go.WideShapes Go.ChangeAt Go.RowKit Go.Deep
set_option linter.unusedVariables false

/-- A step: bit, hash. -/
structure Pk where
  s : Int
  h : ByteArray
deriving Inhabited
def pkC (f : Pk) : List Value := [.int .i64 f.s, .string f.h]
def pksC (l : List Pk) : List Value := l.flatMap pkC
/-- The value is a slice that holds these steps. -/
def Pks (w : World) (v : Value) (l : List Pk) : Prop :=
  ∃ a cap, v = .slice a l.length cap ∧ l.length ≤ cap ∧ cap ≤ maxLen ∧ (l.length = 0 ∨ ∃ b off, a = some ⟨b, off, none⟩ ∧ b < w.heap.size ∧ ∀ i, i < l.length → w.cell? ⟨b, off + i * 2, none⟩ = some (.int .i64 (l.getD i default).s) ∧ w.cell? ⟨b, off + i * 2 + 1, none⟩ = some (.string (l.getD i default).h))
theorem Pks.below {w w' : World} {v : Value} {l : List Pk} (h : Pks w v l) (hb : Below w.heap.size w w') : Pks w' v l := by
  obtain ⟨a, cap, hv, hn, hm, hc⟩ := h
  refine ⟨a, cap, hv, hn, hm, ?_⟩
  rcases hc with h0 | ⟨b, off, ha, hlt, hc⟩
  · exact .inl h0
  · exact .inr ⟨b, off, ha, Nat.lt_of_lt_of_le hlt hb.size, fun i hi => ⟨(hb.cell (p := ⟨b, off + i * 2, none⟩) hlt).trans (hc i hi).1, (hb.cell (p := ⟨b, off + i * 2 + 1, none⟩) hlt).trans (hc i hi).2⟩⟩
theorem pksC_len (l : List Pk) : (pksC l).length = l.length * 2 := by
  induction l with
  | nil => rfl
  | cons f r ih => simp only [pksC, List.flatMap_cons, List.length_append, List.length_cons] at ih ⊢; rw [ih]; simp [pkC]; omega
theorem pksC_get : ∀ (l : List Pk) (i : Nat), i < l.length → (pksC l)[i * 2]? = some (.int .i64 (l.getD i default).s) ∧ (pksC l)[i * 2 + 1]? = some (.string (l.getD i default).h)
  | [], i, h => by simp at h
  | f :: r, 0, h => ⟨rfl, rfl⟩
  | f :: r, i + 1, h => by
    have ih := pksC_get r i (by simpa using h)
    have e : pksC (f :: r) = .int .i64 f.s :: .string f.h :: pksC r := rfl
    rw [e, show (i + 1) * 2 = i * 2 + 1 + 1 by omega, show i * 2 + 1 + 1 + 1 = (i * 2 + 1) + 1 + 1 by omega]
    simp only [List.getElem?_cons_succ, List.getD_cons_succ]
    exact ih
theorem pksC_set : ∀ (l : List Pk) (k : Nat) (f : Pk), k < l.length → ((pksC l).set (k * 2) (.int .i64 f.s)).set (k * 2 + 1) (.string f.h) = pksC (l.set k f)
  | [], k, f, h => by simp at h
  | g :: r, 0, f, h => rfl
  | g :: r, k + 1, f, h => by
    have ih := pksC_set r k f (by simpa using h)
    have e : ∀ (g : Pk) (r : List Pk), pksC (g :: r) = .int .i64 g.s :: .string g.h :: pksC r := fun _ _ => rfl
    rw [List.set_cons_succ, e, e, ← ih, show (k + 1) * 2 = k * 2 + 1 + 1 by omega, show k * 2 + 1 + 1 + 1 = (k * 2 + 1) + 1 + 1 by omega]
    simp only [List.set_cons_succ]
/-- A slice of the call's own that holds these steps. -/
def OwnP (B : Nat) (w : World) (v : Value) (l : List Pk) : Prop := w.ownsRow B 53 2 v l.length (pksC l)
theorem OwnP.nil (B : Nat) (w : World) : OwnP B w (.slice none 0 0) [] := World.ownsRow_nil w B 53 2
theorem OwnP.cells {B : Nat} {w : World} {g cap n : Nat} {l : List Pk} (h : w.ownsRow B 53 2 (.slice (some ⟨g, 0, none⟩) n cap) n (pksC l)) (i : Nat) (hi : i < l.length) (hn : n = l.length) :
    w.cell? ⟨g, i * 2, none⟩ = some (.int .i64 (l.getD i default).s) ∧ w.cell? ⟨g, i * 2 + 1, none⟩ = some (.string (l.getD i default).h) := by
  obtain ⟨e0, e1⟩ := pksC_get l i hi
  exact ⟨(h.cellAt _ (by omega)).trans e0, (h.cellAt _ (by omega)).trans e1⟩
theorem OwnP.pks {B : Nat} {w : World} {v : Value} {l : List Pk} (h : OwnP B w v l) : Pks w v l := by
  rcases h.2 with ⟨rfl, h0⟩ | ⟨g, cap, cur, rfl, hb, hg, hn, hm, _⟩
  · obtain rfl := List.eq_nil_of_length_eq_zero h0
    exact ⟨none, 0, rfl, Nat.le_refl _, by unfold maxLen; omega, .inl rfl⟩
  · refine ⟨_, _, rfl, hn, hm, .inr ⟨g, 0, rfl, (Array.getElem?_eq_some_iff.1 hg).1, fun i hi => ?_⟩⟩
    have := OwnP.cells h i hi rfl
    simpa using this
theorem OwnP.kept {T : Nat → Prop} {B : Nat} {w w' : World} {v : Value} {l : List Pk} (h : OwnP B w v l) (ht : Touch T w w') (hn : ∀ k, v.ownBlock = some k → ¬ T k) : OwnP B w' v l := own_kept h ht hn
theorem OwnP.below {B : Nat} {w w' : World} {v : Value} {l : List Pk} (h : OwnP B w v l) (hb : Below w.heap.size w w') : OwnP B w' v l := h.kept (T := fun _ => False) (Touch.ofBelow hb) (fun _ _ h => h)
theorem OwnP.lt {B : Nat} {w : World} {v : Value} {l : List Pk} (h : OwnP B w v l) : ∀ k, v.ownBlock = some k → B ≤ k ∧ k < w.heap.size := World.ownsRow.lt h
theorem infoPk : (Tryd.prog.info? 53).map (fun i => (i.zero, i.size, i.bytes)) = some (some (.agg #[.int .i64 0, .string ⟨#[]⟩]), 2, 24) := by kernel_rfl

end Go.Proofs.YtnajpeaieeaflaaDoor
