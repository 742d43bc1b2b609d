/- The specification's l07Get; spec.MapGet. -/
import Derived.Test.YtgmaappilopgbaaDoorBrV
import Derived.Test.YtgmaappilopgbaaDoorBrC
import Derived.Deep.RegionHeldLaw
import Derived.Deep.RegionLaw
namespace Go.Proofs.YtgmaappilopgbaaDoor.Sha
open Go.ChangeShapes Go.WideShapes Go.ChangeAt Go.RowKit
set_option linter.unusedVariables false
set_option linter.unusedSimpArgs false

/-- The number in the third cell of a block. -/
def atCell2 (X : Nat) (w : World) : Nat := match w.cell? ⟨X, 2, none⟩ with
  | some (.int _ a) => a.toNat
  | _ => 0
theorem atCell2_is {X : Nat} {w : World} {a : Nat} (h : w.cell? ⟨X, 2, none⟩ = some (.int .i64 a)) : atCell2 X w = a := by
  unfold atCell2
  rw [h]
  simp
theorem toBr_at (t : Tr) : t.toBr.at_ = (t.at_ : Int) := by cases t <;> rfl
/-- What l07Get answers. -/
def GetR (o : Option Tr) (key : ByteArray) (w : World) (e : Ending) (w' : World) : Prop := ∃ (k v : ByteArray) (a : Int) (sa : Option Addr) (n cap : Nat) (fb : Bool), e = .returned (.tuple #[.agg #[.string k, .string v, .int .i64 a, .slice sa n cap], .bool fb]) ∧ Below w.heap.size w w' ∧
  match o with
  | none => fb = false
  | some t => v = (leadL (kh key) t).2 ∧ fb = decide ((leadL (kh key) t).1 = key)
--FI
end Go.Proofs.YtgmaappilopgbaaDoor.Sha
