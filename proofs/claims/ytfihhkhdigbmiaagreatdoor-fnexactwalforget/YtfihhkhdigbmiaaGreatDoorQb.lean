/- A region that draws its order, whose operations only read and whose callees may lay blocks of their own: walked once, in the order of the text, over the worlds in which all that was there is as it was. -/
import Derived.Test.YtfihhkhdigbmiaaGreatDoorBytes
import Derived.Deep.Quiet
namespace Go.Proofs.YtfihhkhdigbmiaaGreatDoor
open Go.ChangeShapes Go.WideShapes Go.ChangeAt Go.RowKit
set_option linter.unusedVariables false

/-- A world in which all that was there in w is as it was. -/
structure Wb (w : World) where
  at_ : World
  below : Below w.heap.size w at_
instance (w : World) : Inhabited (Wb w) := ⟨⟨w, Below.refl _ _⟩⟩
theorem wp_region_wb {P : Program} {id : Nat} {Q : Exit → Act → World → Prop} {a : Act} {w : World} {l : List Oper} (hm : P.follows .mixedOrders = true) (hB : Region.lexB .any l.toArray = true)
    (h : wpQuiet P l.toArray (fun w' => ∃ p : Wb w, w' = p.at_) (fun a' => ∀ w', (∃ p : Wb w, w' = p.at_) → Q .normal a' w') l a) : (Code.region id l.toArray true).wp P Q a w :=
  wp_region_quiet (C := fun w' => ∃ p : Wb w, w' = p.at_) hm hB ⟨⟨w.drew, below_drewN (Below.refl _ w) 1⟩, rfl⟩ (by simpa using h)
theorem Wb.cell {w : World} {a : Addr} {v : Value} (h : w.cell? a = some v) (hb : a.block < w.heap.size) (p : Wb w) : p.at_.cell? a = some v := (p.below.cell hb).trans h
/-- A callee's contract, met in a world of the class. -/
theorem wb_of {P : Program} {f : FuncId} {args : Array Value} {w : World} {p : Wb w} {v : Value}
    (h : Calls P f args p.at_ fun e w' => e = .returned v ∧ Below p.at_.heap.size p.at_ w') : Calls P f args p.at_ fun e w'' => e = .returned v ∧ ∃ q : Wb w, w'' = q.at_ :=
  h.mono fun _ w' ⟨he, hb⟩ => ⟨he, ⟨w', p.below.trans (hb.mono p.below.size)⟩, rfl⟩
theorem wb_same {P : Program} {f : FuncId} {args : Array Value} {w : World} {p : Wb w} {v : Value}
    (h : Calls P f args p.at_ fun e w' => e = .returned v ∧ w' = p.at_) : Calls P f args p.at_ fun e w'' => e = .returned v ∧ ∃ q : Wb w, w'' = q.at_ :=
  h.mono fun _ w' ⟨he, hb⟩ => ⟨he, p, hb⟩
theorem wb_drew {P : Program} {f : FuncId} {args : Array Value} {w : World} {p : Wb w} {v : Value}
    (h : Calls P f args p.at_ fun e w' => e = .returned v ∧ ∃ n, w' = p.at_.drewN n) : Calls P f args p.at_ fun e w'' => e = .returned v ∧ ∃ q : Wb w, w'' = q.at_ :=
  h.mono fun _ w' ⟨he, n, hb⟩ => ⟨he, ⟨w', hb ▸ below_drewN p.below n⟩, rfl⟩
end Go.Proofs.YtfihhkhdigbmiaaGreatDoor
