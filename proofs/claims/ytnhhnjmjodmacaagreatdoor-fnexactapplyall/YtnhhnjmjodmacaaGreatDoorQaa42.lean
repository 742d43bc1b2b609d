/- What the proof of the claim needs (joined by program): AqS. -/
import Derived.Test.YtnhhnjmjodmacaaGreatDoorQaa40
import Derived.Test.YtnhhnjmjodmacaaGreatDoorQaa41
import Derived.Test.YtnhhnjmjodmacaaGreatDoorQaa01
import Derived.Test.YtnhhnjmjodmacaaGreatDoorQaa26
namespace Go.Proofs.YtnhhnjmjodmacaaGreatDoor.Sha
set_option maxRecDepth 100000
set_option maxHeartbeats 8000000
open Go.ChangeShapes Go.WideShapes Go.ChangeAt Go.RowKit Go.Deep
set_option linter.unusedVariables false
set_option linter.unusedSimpArgs false
theorem lok_cnt {x : Lst} (h : LOK x) : cntL (brOf x.o).kids ≤ 80 := by
 have h1 := h.keys
 cases ho : x.o with
 | none => show cntL [] ≤ 80; unfold cntL; omega
 | some t =>
  rw [ho] at h1
  have h2 := tr_cntL t
  have h3 : t.lvN ≤ 40 := h1
  show cntL t.toBr.kids ≤ 80
  omega
end Go.Proofs.YtnhhnjmjodmacaaGreatDoor.Sha
