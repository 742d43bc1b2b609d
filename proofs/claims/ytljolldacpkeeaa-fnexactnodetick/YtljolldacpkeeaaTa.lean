/- A type switch on a concrete struct type. -/
import Derived.Test.YtljolldacpkeeaaHaa
namespace Go.Proofs.Ytljolldacpkeeaa
open Go.ChangeShapes Go.WideShapes Go.ChangeAt Go.RowKit
set_option linter.unusedVariables false

theorem ta_same {P : Program} (t xT : TypeId) (fs : Array Field) (v : Value) (w : World) (h : P.underlying t = some (.struct fs)) : (Instr.typeAssert (.iface t v) xT t true).run P w = .ok (.tuple #[v, .bool true]) w := by
  simp [Instr.typeAssert, run_underlying h, go_sem, Result.andThen]
theorem ta_other {P : Program} (t t' xT : TypeId) (fs : Array Field) (v z : Value) (w : World) (h : P.underlying t' = some (.struct fs)) (hne : t ≠ t') (hz : (P.info? t').map (·.zero) = some (some z)) : (Instr.typeAssert (.iface t v) xT t' true).run P w = .ok (.tuple #[z, .bool false]) w := by
  cases hi : P.info? t' with
  | none => rw [hi] at hz; cases hz
  | some i =>
    rw [hi] at hz
    have hz' : i.zero = some z := by simpa using hz
    simp [Instr.typeAssert, run_underlying h, go_sem, Result.andThen, hne, zeroValue, typeInfo, hi, hz']
end Go.Proofs.Ytljolldacpkeeaa
