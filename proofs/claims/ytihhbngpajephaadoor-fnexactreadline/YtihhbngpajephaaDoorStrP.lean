/- Slices of texts: what a type of texts is, a text put behind others. (Out of StrL and Iup.) -/
import Derived.Test.YtihhbngpajephaaDoorStrO
namespace Go.Proofs.YtihhbngpajephaaDoor
open Go.ChangeShapes Go.WideShapes Go.ChangeAt Go.RowKit
set_option linter.unusedVariables false
set_option linter.unusedSimpArgs false

theorem info9L : (Tryd.prog.info? 9).map (fun i => (i.zero, i.size, i.bytes)) = some (some (.string ⟨#[]⟩), 1, 16) := by kernel_rfl
theorem info_parts9 : ∃ i, Tryd.prog.info? 9 = some i ∧ i.zero = some (.string ⟨#[]⟩) ∧ i.size = 1 ∧ i.bytes = 16 := by
  have h := info9L
  cases e : Tryd.prog.info? 9 with
  | none => rw [e] at h; cases h
  | some i =>
    rw [e] at h
    simp only [Option.map_some, Option.some.injEq, Prod.mk.injEq] at h
    exact ⟨i, rfl, h.1, h.2.1, h.2.2⟩
end Go.Proofs.YtihhbngpajephaaDoor
namespace Go.Proofs.YtihhbngpajephaaDoor.Sha
open Go.ChangeShapes Go.WideShapes Go.ChangeAt Go.RowKit
theorem strs_pushed {B g cap n : Nat} {w : World} {l : List ByteArray} {t : ByteArray} (h : w.ownsRow B 9 1 (.slice (some ⟨g, 0, none⟩) n cap) n (l.map Value.string ++ [.string t])) : OwnS B w (.slice (some ⟨g, 0, none⟩) n cap) (l ++ [t]) := by
  have hn : (l ++ [t]).length = n := by
    have := h.1
    simpa using this
  unfold OwnS
  rw [hn]
  simpa using h
end Go.Proofs.YtihhbngpajephaaDoor.Sha
