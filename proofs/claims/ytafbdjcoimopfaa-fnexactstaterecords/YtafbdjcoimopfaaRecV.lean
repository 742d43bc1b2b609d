/- A record as a value; what a type switch tells of one. -/
import Derived.Test.YtafbdjcoimopfaaSta
namespace Go.Proofs.Ytafbdjcoimopfaa
open Go.ChangeShapes Go.WideShapes Go.ChangeAt Go.RowKit
set_option linter.unusedVariables false

/-- A record. -/
inductive Rc where
  | T (a b : Int)
  | C (k : Int)
  | E (e : En)
def rcV : Option Rc → Value
  | none => .nilIface
  | some (.T a b) => .iface 147 (.agg #[.int .i64 a, .int .i64 b])
  | some (.C k) => .iface 150 (.agg #[.int .i64 k])
  | some (.E e) => .iface 152 (.agg #[.int .i64 e.t, .int .i64 e.k, .string e.d])
theorem ta_same {P : Program} (t xT : TypeId) (fs : Array Field) (v : Value) (w : World) (h : P.underlying t = some (.struct fs)) : (Instr.typeAssert (.iface t v) xT t true).run P w = .ok (.tuple #[v, .bool true]) w := by
  simp [Instr.typeAssert, run_underlying h, go_sem, Result.andThen]
theorem ta_other {P : Program} (t t' xT : TypeId) (fs : Array Field) (v z : Value) (w : World) (h : P.underlying t' = some (.struct fs)) (hne : t ≠ t') (hz : (P.info? t').map (·.zero) = some (some z)) : (Instr.typeAssert (.iface t v) xT t' true).run P w = .ok (.tuple #[z, .bool false]) w := by
  cases hi : P.info? t' with
  | none => rw [hi] at hz; cases hz
  | some i =>
    rw [hi] at hz
    have hz' : i.zero = some z := by simpa using hz
    simp [Instr.typeAssert, run_underlying h, go_sem, Result.andThen, hne, zeroValue, typeInfo, hi, hz']
end Go.Proofs.Ytafbdjcoimopfaa
