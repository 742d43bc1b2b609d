/- (*mapNode).without: the map without the leaf that a hash's bits lead to. -/
import Derived.Test.YtgmaappilopgbaaDoorBrV
namespace Go.Proofs.YtgmaappilopgbaaDoor.Sha
open Go.ChangeShapes Go.WideShapes Go.ChangeAt Go.RowKit
set_option linter.unusedVariables false
set_option linter.unusedSimpArgs false

/-- The map without the leaf that a hash's bits lead to. -/
def dropT (h : ByteArray) : Tr → Option Tr
  | .leaf _ _ => none
  | .fork a hh l r => if bitN h a = 0 then (match dropT h l with | none => some r | some l' => some (.fork a hh l' r)) else (match dropT h r with | none => some l | some r' => some (.fork a hh l r'))
theorem dropT_ok (h : ByteArray) : ∀ (t : Tr), TrOK t → OkO (dropT h t)
  | .leaf _ _, ho => trivial
  | .fork a hh l r, ho => by
    have h1 := dropT_ok h l ho.2.2.1
    have h2 := dropT_ok h r ho.2.2.2
    unfold dropT
    split
    · cases he : dropT h l with
      | none => exact ho.2.2.2
      | some l' => rw [he] at h1; exact ⟨ho.1, ho.2.1, h1, ho.2.2.2⟩
    · cases he : dropT h r with
      | none => exact ho.2.2.1
      | some r' => rw [he] at h2; exact ⟨ho.1, ho.2.1, ho.2.2.1, h2⟩
/-- What without answers. -/
def DropR (S : Nat → Prop) (o : Option Tr) (w : World) (e : Ending) (w' : World) : Prop := ∃ pv, e = .returned (.pointer pv) ∧ PtrM w' S pv o ∧ Touch S w w'
end Go.Proofs.YtgmaappilopgbaaDoor.Sha
