/- A console's line: its words, and a word's number. -/
import Derived.Test.YtihhbngpajephaaDoorCnC
import Derived.Test.YtihhbngpajephaaDoorWrdF
import Derived.Test.YtihhbngpajephaaDoorNumJ
import Derived.Test.YtihhbngpajephaaDoorShN
namespace Go.Proofs.YtihhbngpajephaaDoor.Sha
open Go.ChangeShapes Go.WideShapes Go.ChangeAt Go.RowKit
open Go.Shelf Go.Lib
set_option linter.unusedVariables false
set_option linter.unusedSimpArgs false

set_option maxRecDepth 100000 in
/-- A blank is told. -/
theorem blank_at (w : World) : PredAt Tryd.prog 20 #[] encR (fun r => r == 32) w := fun W r _ => by
  unfold FnGives
  by_cases h : r = 32
  · subst h
    go_enter Tryd.func20, Tryd.ntmps20
    go_wp2
    go_ret
    exact ⟨by simp, 0, rfl⟩
  · have h1 : (((r : Nat) : Int) == 32) = false := beq_eq_false_iff_ne.2 (by omega)
    go_enter Tryd.func20, Tryd.ntmps20
    go_wp2
    go_ret
    exact ⟨by simp [h, h1], 0, rfl⟩
set_option maxRecDepth 100000 in
set_option maxHeartbeats 1000000 in
theorem wordsOf_any (s : ByteArray) (w : World) (hs : s.size ≤ 1048576) :
    Calls Tryd.prog 11 #[.string s] w fun e w' => ∃ A, e = .returned (.slice (some ⟨A, 0, none⟩) (wordsL s).length (wordsL s).length) ∧ OwnS w.heap.size w' (.slice (some ⟨A, 0, none⟩) (wordsL s).length (wordsL s).length) (wordsL s) ∧ Below w.heap.size w w' := by
  have HC := Tryd.strings_FieldsFunc 20 #[] (enters_of Tryd.func20 (by kernel_rfl) rfl) (fun r => r == 32) s w (by omega) (blank_at w)
  rw [fields_words] at HC
  replace HC := hide HC
  generalize wordsL s = l at *
  go_enter Tryd.func11, Tryd.ntmps11
  go_wp2_with fail
  refine (unhide HC).mono ?_
  rintro e w2 ⟨A, rfl, hA, ho, hb⟩
  have R := hide (And.intro ho hb)
  clear HC ho hb
  go_wp2_with fail
  go_ret
  exact ⟨A, rfl, (unhide R).1, (unhide R).2⟩
end Go.Proofs.YtihhbngpajephaaDoor.Sha
